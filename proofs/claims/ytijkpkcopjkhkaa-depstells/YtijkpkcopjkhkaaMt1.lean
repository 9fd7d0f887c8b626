/-
  Blocks of memory told as lists of cells: what stores, loads and whole arrays do to them. Of no program.
  Rows of cells that are read, and 'append' to a row that is full or the call's own. Of no program.
  Layer 12 (deps): hashes, and maps whose keys are hashes.
  Layer 12 (deps): maps whose keys are hashes: a place of an entry, a range.
  Layer 12 (deps): hashes held against each other; lists of hashes; Place, Hashes, isLong.
  Layer 12 (deps): the comparisons of Place and Hashes, whatever their order.
  Layer 12 (deps): Place, Hashes, isLong, light.
  Layer 12 (deps): items; isLong, light.
  Layer 12 (deps): sets of hashes; laws of the walk.
  Layer 12 (deps): the names of items.
  Layer 12 (deps): append to a row of hashes that is the call's own.
  Layer 12 (deps): steps from hashes to hashes: a map of lists.
  Layer 12 (deps): the steps from items to what they need.
  Layer 12 (deps): the steps the other way round.
  Layer 12 (deps): the laws' items and hashes among their arguments, as the walks take them.
  Layer 12 (deps): the reference: its comparisons, whatever their order.
  Layer 12 (deps): the reference: named, twice.
  Layer 12 (deps): the reference: which hash is below which, whatever the order of it.
  Layer 12 (deps): the reference: which hash is below which.
-/
import Derived.WalkKit
import Derived.Below
import Derived.Deep.MidRow
import Derived.Deep.Draws
import Derived.Laws.CopyOwn
import Derived.Deep.DeepAppendWide
import Derived.Deep.RegionHeldLaw
import Derived.Laws.AppendOwn
import Derived.Laws.AppendOwnNone
import Derived.ProofKit
import Derived.Test.YtijkpkcopjkhkaaRows
import Derived.WideKeyArr
import Derived.ChangeKeysEq
import Derived.Maps.RangeRun
import Derived.MapKept
import Derived.Deep.RegionHeld
import Derived.Deep.Slices
import Derived.ChangeSame
import Derived.OpenShut
import Derived.ShutString
import Derived.ChangeOld
import Derived.WideKeyArr2
import Derived.Laws.IdiomStrings
/- Blocks of memory told as lists of cells: what stores, loads and whole arrays do to them. Of no program. -/
namespace Go.Proofs.Ytijkpkcopjkhkaa.Oct
open Go.RowKit

/-- block b holds just the cells L, none of them frozen -/
def Blk (w : World) (b : Nat) (t : TypeId) (L : List Value) : Prop := w.heap[b]? = some (.cells L.toArray t (0, 0))

section
variable {w w' : World} {b : Nat} {t : TypeId} {L : List Value}
theorem Blk.lt (h : Blk w b t L) : b < w.heap.size := lt_of_block h
theorem Blk.cell (h : Blk w b t L) {i : Nat} {v : Value} (hv : L[i]? = some v) : w.cell? ⟨b, i, none⟩ = some v := by
  rw [cell_of_row w b i _ t (0, 0) h, List.getElem?_toArray]; exact hv
theorem Blk.free (h : Blk w b t L) (i : Nat) : w.frozen? ⟨b, i, none⟩ = false := frozen_of_row w b i _ t h
theorem Blk.drewN (h : Blk w b t L) (n : Nat) : Blk (w.drewN n) b t L := h
theorem Blk.drew (h : Blk w b t L) : Blk w.drew b t L := h
theorem Blk.set (h : Blk w b t L) (i : Nat) (v : Value) : Blk (w.setCell ⟨b, i, none⟩ v) b t (L.set i v) := by
  have := heap_setCell_same w b i _ t v h
  unfold Blk
  rw [this]
  simp
theorem Blk.other (h : Blk w b t L) {a : Addr} (hne : b ≠ a.block) (v : Value) : Blk (w.setCell a v) b t L := by
  unfold Blk; rw [heap_setCell_other w a b v hne]; exact h
theorem Blk.below {B : Nat} (h : Blk w b t L) (hb : Below B w w') (hB : b < B) : Blk w' b t L := (hb.block b hB).trans h
theorem Blk.kept {row : Option Nat} (h : Blk w b t L) (hg : w.grownBy w' row) (hne : some b ≠ row) : Blk w' b t L := (hg.block b h.lt hne).trans h
theorem Blk.new (w : World) (C : Array Value) (t : TypeId) : Blk (w.alloc (.cells C t)) w.heap.size t C.toList := by
  unfold Blk; rw [heap_alloc_new]
theorem Blk.alloc (h : Blk w b t L) (o : Obj) : Blk (w.alloc o) b t L := (Below.heap_alloc w o b h.lt).trans h
theorem Blk.range (h : Blk w b t L) (o n : Nat) : w.rangeAt b o ((L.drop o).take n) := by
  intro j v hj
  rw [List.getElem?_take] at hj
  split at hj
  · rw [List.getElem?_drop] at hj
    exact h.cell hj
  · cases hj
theorem Blk.there (h : Blk w b t L) (o n : Nat) (hn : o + n ≤ L.length) : w.there b o n := by
  intro j hj
  exact ⟨by rw [h.cell (List.getElem?_eq_getElem (by omega))]; rfl, h.free _⟩
end

/-- a row of cells of elements of a type -/
def RowT (w : World) (e : TypeId) (g : Nat) : Prop := ∃ cs fr, w.heap[g]? = some (.cells cs e fr)
theorem RowT.lt {w : World} {e : TypeId} {g : Nat} (h : RowT w e g) : g < w.heap.size := by
  obtain ⟨cs, fr, h⟩ := h
  exact (Array.getElem?_eq_some_iff.1 h).1
theorem RowT.same {w w' : World} {e : TypeId} {g : Nat} (h : RowT w e g) (hs : w'.heap[g]? = w.heap[g]?) : RowT w' e g := by
  obtain ⟨cs, fr, h⟩ := h
  exact ⟨cs, fr, hs.trans h⟩
theorem Blk.row {w : World} {b : Nat} {t : TypeId} {L : List Value} (h : Blk w b t L) : RowT w t b := ⟨_, _, h⟩
theorem grown_setCell (w : World) (b i : Nat) (v : Value) : w.grownBy (w.setCell ⟨b, i, none⟩ v) (some b) :=
  ⟨rfl, rfl, rfl, by simp, fun k _ hne => heap_setCell_other w ⟨b, i, none⟩ k v (fun e => hne (by rw [e]))⟩
theorem grown_tr {w w1 w2 : World} {row : Option Nat} (h : w.grownBy w1 row) (k : w1.grownBy w2 row) : w.grownBy w2 row :=
  ⟨k.os.trans h.os, k.tape.trans h.tape, k.output.trans h.output, Nat.le_trans h.size k.size, fun b hb hne => (k.block b (Nat.lt_of_lt_of_le hb h.size) hne).trans (h.block b hb hne)⟩
theorem grown_drewN (w : World) (n : Nat) (row : Option Nat) : w.grownBy (w.drewN n) row := ⟨rfl, rfl, rfl, Nat.le_refl _, fun _ _ _ => rfl⟩

/-- several cells written one behind the other -/
theorem Blk.setCells {b : Nat} {t : TypeId} : ∀ (vs : List Value) (o : Nat) (w : World) (L : List Value), Blk w b t L → o + vs.length ≤ L.length →
    Blk (w.setCells b o vs) b t (L.take o ++ vs ++ L.drop (o + vs.length)) ∧ w.grownBy (w.setCells b o vs) (some b)
  | [], o, w, L, h, _ => by
    refine ⟨?_, World.grownBy.refl _ _⟩
    simpa [World.setCells] using h
  | v :: vs, o, w, L, h, hl => by
    have ih := Blk.setCells vs (o + 1) (w.setCell ⟨b, o, none⟩ v) (L.set o v) (h.set o v) (by simp at *; omega)
    simp only [World.setCells]
    refine ⟨?_, grown_tr (grown_setCell w b o v) ih.2⟩
    have e : (L.set o v).take (o + 1) ++ vs ++ (L.set o v).drop (o + 1 + vs.length) = L.take o ++ (v :: vs) ++ L.drop (o + (v :: vs).length) := by
      have hlt : o < L.length := by simp at hl; omega
      have e0 : L.set o v = L.take o ++ v :: L.drop (o + 1) := by rw [List.set_eq_take_append_cons_drop, if_pos hlt]
      have e1 : (L.set o v).take (o + 1) = L.take o ++ [v] := by
        rw [e0, List.take_append, List.length_take, Nat.min_eq_left (by omega), show o + 1 - o = 1 by omega, List.take_of_length_le (by simp; omega)]; rfl
      rw [e1, List.drop_set_of_lt (by omega), show o + 1 + vs.length = o + (v :: vs).length by simp; omega]
      simp
    rw [← e]
    exact ih.1

/-- a whole array stored into a block -/
theorem wpList_store_blk {P : Program} {ops : Array Oper} {rest : List Oper} {op : Oper} {a : Act} {w : World} {Q : Exit → Act → World → Prop} (hgd : op.guard = none) (ty : TypeId) (x y : Operand) (ho : op.op = .store ty x y)
    (b o : Nat) (t : TypeId) (L : List Value) (cells : List Value) (hx : a.eval x = .pointer (some ⟨b, o, none⟩)) (hy : a.eval y = .agg cells.toArray)
    (hb : Blk w b t L) (hl : o + cells.length ≤ L.length) (hi : (P.info? ty).map (·.size) = some cells.length) (h1 : ∀ v ∈ cells, v.oneCell' = true)
    (h : ∀ w', Hid (Blk w' b t (L.take o ++ cells ++ L.drop (o + cells.length))) → Hid (w.grownBy w' (some b)) → wpList P ops Q rest (a.put op.dst undef) w') : wpList P ops Q (op :: rest) a w := by
  refine wpList_store_mid hgd ty x y ho b o cells.toArray hx hy (by simpa using hb.there o cells.length hl) (by simpa using hi) (all_oneCell_toArray h1) ?_
  have e := Blk.setCells cells o w L hb hl
  exact h _ e.1 e.2

end Go.Proofs.Ytijkpkcopjkhkaa.Oct

/- Rows of cells that are read, and 'append' to a row that is full or the call's own. Of no program. -/
namespace Go.Proofs.Ytijkpkcopjkhkaa.Oct
open Go.RowKit

/-- a slice of n elements of sz cells each: the cells cs -/
def Rd (w : World) (e sz : Nat) (a : Option Addr) (n : Nat) (cs : List Value) : Prop :=
  cs.length = n * sz ∧ (∀ u ∈ cs, u.oneCell' = true) ∧ (0 < n → ∃ g off, a = some ⟨g, off, none⟩ ∧ RowT w e g ∧ ∀ j u, cs[j]? = some u → w.cell? ⟨g, off + j, none⟩ = some u)
theorem Rd.below {w w' : World} {B e sz : Nat} {a : Option Addr} {n : Nat} {cs : List Value} (h : Rd w e sz a n cs) (hb : Below B w w') (hB : w.heap.size ≤ B) : Rd w' e sz a n cs := by
  refine ⟨h.1, h.2.1, fun hp => ?_⟩
  obtain ⟨g, off, e, h1, h2⟩ := h.2.2 hp
  have hgl := h1.lt
  exact ⟨g, off, e, h1.same (hb.block g (by omega)), fun i b hi => (hb.cell (p := ⟨g, _, none⟩) (by show g < B; omega)).trans (h2 i b hi)⟩
theorem Rd.take {w : World} {e sz : Nat} {a : Option Addr} {n : Nat} {cs : List Value} (h : Rd w e sz a n cs) {i : Nat} (hi : i ≤ n) : Rd w e sz a i (cs.take (i * sz)) := by
  refine ⟨by rw [List.length_take, h.1]; exact Nat.min_eq_left (Nat.mul_le_mul_right _ hi), fun u hu => h.2.1 u (List.mem_of_mem_take hu), fun hp => ?_⟩
  obtain ⟨g, off, e, h1, h2⟩ := h.2.2 (by omega)
  refine ⟨g, off, e, h1, fun j u hu => h2 j u ?_⟩
  rw [List.getElem?_take] at hu
  split at hu
  · exact hu
  · cases hu
theorem Rd.drop {w : World} {e sz : Nat} {g off n : Nat} {cs : List Value} (h : Rd w e sz (some ⟨g, off, none⟩) n cs) {j : Nat} (hj : j ≤ n) : Rd w e sz (some ⟨g, off + j * sz, none⟩) (n - j) (cs.drop (j * sz)) := by
  refine ⟨by rw [List.length_drop, h.1, Nat.sub_mul], fun u hu => h.2.1 u (List.mem_of_mem_drop hu), fun hp => ?_⟩
  obtain ⟨g', off', e, h1, h2⟩ := h.2.2 (by omega)
  cases e
  refine ⟨g, _, rfl, h1, fun k u hk => ?_⟩
  rw [List.getElem?_drop] at hk
  rw [Nat.add_assoc]
  exact h2 _ u hk
theorem Rd.nil (w : World) (e sz : Nat) (a : Option Addr) : Rd w e sz a 0 [] := ⟨by simp, by simp, fun h => absurd h (by omega)⟩
/-- a slice's address, or none of a slice without room -/
def Ad (a : Option Addr) (cap : Nat) : Prop := (a = none ∧ cap = 0) ∨ ∃ g off, a = some ⟨g, off, none⟩
/-- what may be appended to: a full row that is read, or one of the call's own -/
def Bs (e sz B : Nat) (w : World) (v : Value) (n : Nat) (cs : List Value) : Prop := (∃ a, v = .slice a n n ∧ Rd w e sz a n cs ∧ Ad a n) ∨ ((∀ u ∈ cs, u.oneCell' = true) ∧ w.ownsRow B e sz v n cs)
theorem Bs.read {e sz B : Nat} {w : World} {v : Value} {n : Nat} {cs : List Value} (h : Bs e sz B w v n cs) : ∃ a cap, v = .slice a n cap ∧ n ≤ cap ∧ Rd w e sz a n cs ∧ Ad a cap := by
  rcases h with ⟨a, rfl, h, h0⟩ | ⟨h1, h⟩
  · exact ⟨a, n, rfl, Nat.le_refl _, h, h0⟩
  · rcases h.2 with ⟨rfl, rfl⟩ | ⟨g, cap, cur, rfl, hB, hb, hn, _, _, ht⟩
    · exact ⟨none, 0, rfl, Nat.le_refl _, ⟨h.1, h1, fun hp => absurd hp (by omega)⟩, .inl ⟨rfl, rfl⟩⟩
    · refine ⟨_, cap, rfl, hn, ⟨h.1, h1, fun _ => ⟨g, 0, rfl, ⟨_, _, hb⟩, fun j u hu => ?_⟩⟩, .inr ⟨g, 0, rfl⟩⟩
      rw [Nat.zero_add, cell_of_row w g j _ e (0, 0) hb]
      rw [← ht, List.getElem?_take] at hu
      split at hu
      · simpa using hu
      · cases hu
/-- nothing appended -/
theorem run_append_zero {P : Program} (w : World) (t ty e : TypeId) (i : TypeInfo) (ht : P.underlying t = some (.slice e)) (hi : P.info? e = some i) (a o : Option Addr) (n cap c : Nat) (hn : n ≤ cap) :
    (Builtin.append_ #[t, t] ty #[.slice a n cap, .slice o 0 c]).run P w = .ok (.slice a n cap) w := by
  cases o with
  | none =>
    cases a with
    | none => simp [Builtin.append_, run_underlying ht, sizeOf, typeInfo, hi, Builtin.lenOf, Builtin.firstCells, hn]
    | some a => simp [Builtin.append_, run_underlying ht, sizeOf, typeInfo, hi, Builtin.lenOf, Builtin.firstCells, hn, storeCells]
  | some o =>
    cases a with
    | none => simp [Builtin.append_, run_underlying ht, sizeOf, typeInfo, hi, Builtin.lenOf, Builtin.firstCells, hn, loadCells, loadCellsFrom]
    | some a => simp [Builtin.append_, run_underlying ht, sizeOf, typeInfo, hi, Builtin.lenOf, Builtin.firstCells, hn, loadCells, loadCellsFrom, storeCells]
theorem own_of_grown {w : World} {B e sz n m old : Nat} {z : Value} {xs news : List Value} (hz : z.cells.size = sz) (hx : xs.length = n * sz) (hl : news.length = m * sz) (hB : B ≤ w.heap.size) (h63 : n + m ≤ maxLen) :
    (w.drew.alloc (.cells (xs.toArray ++ news.toArray ++ Builtin.zeroCells z.cells (grownCap w (n + m) old e - (n + m))) e)).ownsRow B e sz (.slice (some ⟨w.heap.size, 0, none⟩) (n + m) (grownCap w (n + m) old e)) (n + m) (xs ++ news) := by
  have hge := grownCap_ge w (n + m) old e
  have hcm : grownCap w (n + m) old e ≤ maxLen := grownCap_le_maxLen w (n + m) old e h63
  have hlen : (xs ++ news).length = (n + m) * sz := by rw [List.length_append, hx, hl, Nat.add_mul]
  refine ⟨hlen, .inr ⟨w.heap.size, _, _, rfl, hB, heap_alloc_new w.drew _, hge, hcm, ?_, ?_⟩⟩
  · simp only [Array.size_append, List.size_toArray, size_zeroCells, hx, hl, hz, ← Nat.add_mul]
    congr 1
    omega
  · simp only [Array.toList_append, List.append_assoc]
    rw [← List.append_assoc, ← hlen]
    exact List.take_left
theorem run_append_bs {P : Program} (w : World) (t ty e : TypeId) (i : TypeInfo) (z : Value) (sz B : Nat) (ht : P.underlying t = some (.slice e)) (hi : P.info? e = some i) (hz : i.zero = some z) (hs : i.size = sz) (hby : i.bytes ≤ 64) (hzs : z.cells.size = sz) (hsz : 0 < sz)
    (v : Value) (n : Nat) (cs : List Value) (h : Bs e sz B w v n cs) (o : Option Addr) (q c : Nat) (qs : List Value) (ho : Rd w e sz o q qs) (hB : B ≤ w.heap.size) (hn : n + q ≤ 100000000000) :
    ∃ v' w', (Builtin.append_ #[t, t] ty #[v, .slice o q c]).run P w = .ok v' w' ∧ Bs e sz B w' v' (n + q) (cs ++ qs) ∧ Below B w w' := by
  have hone : ∀ u ∈ cs ++ qs, u.oneCell' = true := by
    have h1 : ∀ u ∈ cs, u.oneCell' = true := by
      rcases h with ⟨_, _, h, _⟩ | ⟨h, _⟩
      · exact h.2.1
      · exact h
    intro u hu
    rcases List.mem_append.1 hu with hu | hu
    · exact h1 u hu
    · exact ho.2.1 u hu
  have hbb : ∀ m, m ≤ 100000000000 → (m + m / 4 + 192) * i.bytes ≤ 281474976710656 := fun m hm => by
    refine Nat.le_trans (Nat.mul_le_mul_left _ hby) ?_
    omega
  by_cases hq : q = 0
  · subst hq
    have hqs : qs = [] := List.eq_nil_of_length_eq_zero (by rw [ho.1]; omega)
    subst hqs
    obtain ⟨a, cap, rfl, hnc, _⟩ := h.read
    exact ⟨_, w, run_append_zero w t ty e i ht hi a o n cap c hnc, by simpa using h, Below.refl _ _⟩
  · obtain ⟨g2, off2, rfl, _, hq2⟩ := ho.2.2 (by omega)
    have hnews : ∀ j u, qs[j]? = some u → w.cell? ((⟨g2, off2, none⟩ : Addr).add j) = some u := fun j u hu => by rw [Addr.add_lit]; exact hq2 j u hu
    rcases h with ⟨a, rfl, h, hnone⟩ | ⟨_, h⟩
    · cases a with
      | none =>
        have h0 : n = 0 := by
          rcases hnone with ⟨_, h⟩ | ⟨_, _, h⟩
          · exact h
          · cases h
        subst h0
        have hcs : cs = [] := List.eq_nil_of_length_eq_zero (by rw [h.1]; omega)
        subst hcs
        have hr := run_append_nil (P := P) w t ty e i z ht hi hz ⟨g2, off2, none⟩ q c qs (by rw [hs]; exact ho.1) hnews (by omega) (by omega) (Nat.le_trans (Nat.mul_le_mul_right _ (by omega)) (hbb q (by omega)))
        have hw := own_of_grown (w := w) (B := B) (e := e) (n := 0) (m := q) (old := 0) (xs := []) hzs (by simp) ho.1 hB (by unfold maxLen; omega)
        simp only [Nat.zero_add, List.nil_append, Array.empty_append] at hw ⊢
        exact ⟨_, _, hr, .inr ⟨by simpa using hone, hw⟩, (Below.refl B w).drew.alloc hB _⟩
      | some a =>
        have hol : ∀ j u, cs[j]? = some u → w.cell? (a.add j) = some u := fun j u hu => by
          have hlt : 0 < n := by
            have := (List.getElem?_eq_some_iff.1 hu).1
            rw [h.1] at this
            exact Nat.pos_of_ne_zero (fun e => by subst e; omega)
          obtain ⟨g, off, e, _, h2⟩ := h.2.2 hlt
          cases e
          rw [Addr.add_lit]; exact h2 j u hu
        have hr := run_append_grow (P := P) w t ty e i z ht hi hz a n n cs (by rw [hs]; exact h.1) hol ⟨g2, off2, none⟩ q c qs (by rw [hs]; exact ho.1) hnews (by omega) (by omega) (growslice_fits_wide (by omega) (hbb _ hn))
        exact ⟨_, _, hr, .inr ⟨hone, own_of_grown hzs h.1 ho.1 hB (by unfold maxLen; omega)⟩, (Below.refl B w).drew.alloc hB _⟩
    · obtain ⟨v', w', hr, h2, h3, _⟩ := run_append_own_wide (P := P) w B t ty e i z sz i.bytes ht hi hz hs rfl hzs hsz v n cs h ⟨g2, off2, none⟩ q c qs ho.1 hnews ho.2.1 (by unfold maxLen; omega) (hbb _ hn) hB
      refine ⟨v', w', hr, .inr ⟨hone, h2⟩, ⟨h3.os, h3.tape, h3.output, h3.size, fun k hk => h3.block k (by omega) fun e => ?_⟩⟩
      have := (h.lt k e.symm).1
      omega
theorem step_append_bs {P : Program} {ops : Array Oper} {o : Oper} {a : Act} {K : Act → World → Prop} {Q : Exit → Act → World → Prop} {E : Prop} (hw : Region.wanted o (yielded ops a.tmps) = true) (dd : Tmp) (hdd : o.dst = some dd) (s x : Operand) (t : TypeId)
    (hop : o.op = .call { callee := .builtin .append, args := #[s, x], argTypes := #[t, t] }) (w : World) (e : TypeId) (i : TypeInfo) (z : Value) (sz B : Nat) (ht : P.underlying t = some (.slice e)) (hi : P.info? e = some i) (hz : i.zero = some z) (hs : i.size = sz) (hby : i.bytes ≤ 64) (hzs : z.cells.size = sz) (hsz : 0 < sz)
    (v : Value) (n : Nat) (cs : List Value) (h : Bs e sz B w v n cs) (ao : Option Addr) (q c : Nat) (qs : List Value) (hsv : a.eval s = v) (hx : a.eval x = .slice ao q c) (ho : Rd w e sz ao q qs) (hB : B ≤ w.heap.size) (hn : n + q ≤ 100000000000)
    (hk : ∀ v' w', Hid (Bs e sz B w' v' (n + q) (cs ++ qs)) → Hid (Below B w w') → K (a.put (some dd) v') w') : if Region.wanted o (yielded ops a.tmps) = true then Oper.wp P o a w K Q else E := by
  rw [if_pos hw]
  obtain ⟨v', w', hr, h2, h3⟩ := run_append_bs (P := P) w t o.type e i z sz B ht hi hz hs hby hzs hsz v n cs h ao q c qs ho hB hn
  unfold Oper.wp execOp
  simp only [hop, resolve, invoke, builtin, Sem.run_bind, Sem.run_pure, Result.andThen_ok, List.map_toArray, List.map_cons, List.map_nil, hsv, hx, hr]
  rw [← hdd] at hk
  exact hk v' w' h2 h3
end Go.Proofs.Ytijkpkcopjkhkaa.Oct

/- Layer 12 (deps): hashes, and maps whose keys are hashes. -/
namespace Go.Proofs.Ytijkpkcopjkhkaa.Oct
open Go.RowKit Go.WideMaps Go.ChangeMaps Go.MapKept

/-- a hash: its bytes -/
abbrev Hs := List UInt8
def U (l : List UInt8) : List Value := l.map fun c => .int .u8 (c.toNat : Int)
def hv (h : Hs) : Value := .agg (U h).toArray
theorem U_length (l : List UInt8) : (U l).length = l.length := by simp [U]
theorem U_get (l : List UInt8) (i : Nat) (h : i < l.length) : (U l)[i]? = some (.int .u8 (l[i].toNat : Int)) := by simp [U, h]
theorem U_one (l : List UInt8) : ∀ v ∈ U l, v.oneCell' = true := by
  intro v hv
  obtain ⟨c, _, rfl⟩ := List.mem_map.1 hv
  rfl
theorem U_inj : ∀ {a b : List UInt8}, U a = U b → a = b
  | [], [], _ => rfl
  | [], _ :: _, h => by simp [U] at h
  | _ :: _, [], h => by simp [U] at h
  | x :: a, y :: b, h => by
    simp only [U, List.map_cons, List.cons.injEq] at h
    have e : (x.toNat : Int) = y.toNat := by simpa using h.1
    rw [UInt8.toNat_inj.1 (by omega : x.toNat = y.toNat), U_inj (show U a = U b from h.2)]
theorem hv_inj {a b : Hs} (h : hv a = hv b) : a = b := U_inj (by simpa [hv] using h)
theorem arr34 : ArrKey Try.prog 34 5 32 := ⟨Try.underlying34, by kernel_rfl, by kernel_rfl, by kernel_rfl⟩
theorem law34 : KeyLaw Try.prog 34 := arr34.law
theorem wf_u8 (c : UInt8) : (Lit.int .u8 (c.toNat : Int)).wf = true := by
  have := c.toNat_lt
  simp [Lit.wf, IntKind.min, IntKind.max, IntKind.signed, IntKind.bits]; omega
theorem mapM_some {α β : Type} {f : α → Option β} : ∀ (l : List α), (∀ x ∈ l, ∃ y, f x = some y) → ∃ ys, l.mapM f = some ys
  | [], _ => ⟨[], rfl⟩
  | x :: l, h => by
    obtain ⟨y, hy⟩ := h x (by simp)
    obtain ⟨ys, hys⟩ := mapM_some l (fun z hz => h z (by simp [hz]))
    exact ⟨y :: ys, by simp [List.mapM_cons, hy, hys]⟩
theorem has_key (h : Hs) (hl : h.length = 32) : ∃ l, keyOf Try.prog 34 (hv h) = some l := by
  have hk : Try.prog.keyType 34 = true := by kernel_rfl
  have hf : (hv h).formed Try.prog 34 = true := by
    simp [Value.formed, hv, Try.underlying34, U_length, hl, show Try.prog.cellsOf 34 = 32 by kernel_rfl]
  have hts : Try.prog.types.size + 1 = 114 := by kernel_rfl
  obtain ⟨ls, hls⟩ : ∃ ls, Try.prog.keyLits 114 34 (U h) = some ls := by
    unfold Program.keyLits
    rw [Try.underlying34]
    simp only [U_length, hl, show Try.prog.cellsOf 34 = 32 by kernel_rfl, show Try.prog.cellsOf 5 = 1 by kernel_rfl, if_true, Nat.mul_one]
    obtain ⟨ys, hys⟩ := mapM_some (f := fun i => Try.prog.keyLits 113 5 (((U h).drop i).take 1)) (List.range 32) (by
      intro i hi
      rw [List.mem_range] at hi
      have e : ((U h).drop i).take 1 = [.int .u8 (h[i].toNat : Int)] := by
        rw [List.drop_eq_getElem_cons (by rw [U_length]; omega)]
        simp [U]
      rw [e]
      unfold Program.keyLits
      rw [Try.underlying5]
      simp [wf_u8])
    exact ⟨ys.flatten, by rw [hys]; rfl⟩
  unfold keyOf
  rw [Try.underlying34]
  simp only [hk, hf, hts, Bool.and_self, if_true]
  have e : (hv h).cells.toList = U h := by simp [hv, Value.cells]
  rw [e, hls]
  exact ⟨_, rfl⟩

/-- an entry -/
structure Ent where
  k : Hs
  v : Value
  b : Nat
def Ent.me (e : Ent) : MapEntry := { key := hv e.k, val := e.v, born := e.b }
/-- at block b lies a map with just these entries -/
def HM (w : World) (b : Nat) (es : List Ent) : Prop :=
  ∃ clock, w.heap[b]? = some (.map (es.map Ent.me).toArray clock) ∧ (∀ e ∈ es, e.b < clock) ∧ (es.map (·.b)).Nodup ∧ (es.map (·.k)).Nodup ∧ ∀ e ∈ es, e.k.length = 32
def hlook (h : Hs) (es : List Ent) : Option Ent := es.find? (fun e => e.k == h)

section
variable {w w' : World} {b : Nat} {es : List Ent} {h : Hs}
theorem HM.lt (hm : HM w b es) : b < w.heap.size := by
  obtain ⟨clock, h1, _⟩ := hm
  exact (Array.getElem?_eq_some_iff.1 h1).1
theorem HM.same (hm : HM w b es) (hs : w'.heap[b]? = w.heap[b]?) : HM w' b es := by
  obtain ⟨clock, h1, h2⟩ := hm
  exact ⟨clock, hs.trans h1, h2⟩
theorem HM.kept {row : Option Nat} (hm : HM w b es) (hg : w.grownBy w' row) (hne : some b ≠ row) : HM w' b es := hm.same (hg.block b hm.lt hne)
theorem HM.below {B : Nat} (hm : HM w b es) (hb : Below B w w') (hB : b < B) : HM w' b es := hm.same (hb.block b hB)
theorem HM.alloc (hm : HM w b es) (o : Obj) : HM (w.alloc o) b es := hm.same (Below.heap_alloc w o b hm.lt)
theorem HM.made (w : World) : HM (w.alloc (.map #[] 0)) w.heap.size [] := ⟨0, by simpa using heap_alloc_new w (.map #[] 0), by simp, by simp, by simp, by simp⟩

theorem hlook_none (hn : hlook h es = none) : ∀ e ∈ es, e.k ≠ h := by
  intro e he hk
  have := List.find?_eq_none.1 hn e he
  simp [hk] at this
theorem hlook_some {e : Ent} (hs : hlook h es = some e) : e ∈ es ∧ e.k = h := by
  refine ⟨List.mem_of_find?_eq_some hs, ?_⟩
  have := List.find?_some hs
  simpa using this
theorem hlook_mem {e : Ent} (hnd : (es.map (·.k)).Nodup) (he : e ∈ es) : hlook e.k es = some e := by
  cases hl : hlook e.k es with
  | none => exact absurd rfl (hlook_none hl e he)
  | some x =>
    obtain ⟨h1, h2⟩ := hlook_some hl
    congr 1
    by_cases hxe : x = e
    · exact hxe
    · exfalso
      obtain ⟨i, hi, hxi⟩ := List.mem_iff_getElem.1 h1
      obtain ⟨j, hj, hej⟩ := List.mem_iff_getElem.1 he
      have hij : i ≠ j := by rintro rfl; exact hxe (hxi.symm.trans hej)
      have := (List.nodup_iff_pairwise_ne.1 hnd)
      have hp := List.pairwise_iff_getElem.1 this
      rcases Nat.lt_or_gt_of_ne hij with hlt | hlt
      · exact hp i j (by simpa using hi) (by simpa using hj) hlt (by simp [hxi, hej, h2])
      · exact hp j i (by simpa using hj) (by simpa using hi) hlt (by simp [hxi, hej, h2])
/-- the search for a key -/
theorem run_find (W : World) (hl : h.length = 32) (hk : ∀ e ∈ es, e.k.length = 32) (hnd : (es.map (·.k)).Nodup) :
    (hlook h es = none ∧ (Instr.findKey 34 (hv h) (es.map Ent.me)).run Try.prog W = .ok none W) ∨
    ∃ j e, hlook h es = some e ∧ es[j]? = some e ∧ (Instr.findKey 34 (hv h) (es.map Ent.me)).run Try.prog W = .ok (some (j, e.v)) W := by
  obtain ⟨l, hkey⟩ := has_key h hl
  rcases law34.find W hkey (es.map Ent.me) (by
    intro x hx
    obtain ⟨e, he, rfl⟩ := List.mem_map.1 hx
    exact has_key e.k (hk e he)) with ⟨h1, h2⟩ | ⟨j, x, h1, h2, h3⟩
  · refine .inl ⟨?_, h1⟩
    refine List.find?_eq_none.2 fun e he => ?_
    have := h2 e.me (List.mem_map.2 ⟨e, he, rfl⟩)
    intro hc
    have hc' : e.k = h := by simpa using hc
    exact this (congrArg hv hc')
  · rw [List.getElem?_map] at h2
    obtain ⟨e, he, rfl⟩ := Option.map_eq_some_iff.1 h2
    have hke : e.k = h := hv_inj h3
    refine .inr ⟨j, e, ?_, he, h1⟩
    rw [← hke]
    exact hlook_mem hnd (List.mem_of_getElem? he)

/-- what a lookup answers -/
def lkv (c : Bool) (o : Option Ent) (z : Value) : Value := if c then .tuple #[(o.map (·.v)).getD z, .bool o.isSome] else (o.map (·.v)).getD z
theorem HM.look {t E : TypeId} (hm : HM w b es) (ht : Try.prog.underlying t = some (.map 34 E)) (hl : h.length = 32) (c : Bool) {z : Value} (hz : (zeroValue E).run Try.prog w = .ok z w) :
    (Instr.lookup t (.map (some b)) (hv h) c).run Try.prog w = .ok (lkv c (hlook h es) z) w := by
  obtain ⟨clock, hb, h2, h3, h4, h5⟩ := hm
  obtain ⟨l, hkey⟩ := has_key h hl
  rcases run_find w hl h5 h4 with ⟨h6, h7⟩ | ⟨j, e, h6, h7, h8⟩
  · simp [Instr.lookup, run_underlying ht, MapKept.run_getObj_map hb, law34.check w _ hkey, h7, h6, hz, Result.andThen, lkv]
  · simp [Instr.lookup, run_underlying ht, MapKept.run_getObj_map hb, law34.check w _ hkey, h8, h6, Result.andThen, lkv]
theorem look_nil {t E : TypeId} (ht : Try.prog.underlying t = some (.map 34 E)) (hl : h.length = 32) (c : Bool) {z : Value} (hz : (zeroValue E).run Try.prog w = .ok z w) :
    (Instr.lookup t (.map none) (hv h) c).run Try.prog w = .ok (lkv c none z) w := by
  obtain ⟨l, hkey⟩ := has_key h hl
  rcases run_find (es := []) w hl (by simp) (by simp) with ⟨h6, h7⟩ | ⟨j, e, h6, h7, h8⟩
  · have h7' : (Instr.findKey 34 (hv h) []).run Try.prog w = .ok none w := h7
    simp [Instr.lookup, run_underlying ht, law34.check w _ hkey, h7', hz, Result.andThen, lkv]
  · simp at h7

theorem grown_setBlock {o : Obj} (hb : w.heap[b]? = some o) (o' : Obj) : w.grownBy (setBlock w b o') (some b) :=
  ⟨rfl, rfl, rfl, by simp [setBlock], fun i _ hi => (MapKept.heap_set hb).2 i (fun e => hi (by rw [e]))⟩
/-- a value put at a key -/
def hputE (h : Hs) (v : Value) (es : List Ent) (nb : Nat) : List Ent := if (hlook h es).isSome then es.map (fun e => if e.k = h then { e with v := v } else e) else es ++ [⟨h, v, nb⟩]
theorem modify_me {j : Nat} {e : Ent} (v : Value) (hnd : (es.map (·.k)).Nodup) (he : es[j]? = some e) : ((es.map Ent.me).toArray.modify j fun x => { x with key := hv e.k, val := v }) = ((es.map (fun x => if x.k = e.k then { x with v := v } else x)).map Ent.me).toArray := by
  have hj : j < es.length := (List.getElem?_eq_some_iff.1 he).1
  have hej : es[j] = e := (List.getElem?_eq_some_iff.1 he).2
  apply Array.ext
  · simp
  · intro i h1 h2
    have hi : i < es.length := by simpa using h1
    rw [Array.getElem_modify]
    simp only [List.getElem_toArray, List.getElem_map]
    by_cases hij : j = i
    · subst hij
      simp [hej, Ent.me]
    · have hne : ¬ es[i].k = e.k := by
        intro hc
        have hp := List.pairwise_iff_getElem.1 (List.nodup_iff_pairwise_ne.1 hnd)
        rcases Nat.lt_or_gt_of_ne hij with hlt | hlt
        · exact hp j i (by simpa using hj) (by simpa using hi) hlt (by simp [hej, hc])
        · exact hp i j (by simpa using hi) (by simpa using hj) hlt (by simp [hej, hc])
      simp [hij, hne]
theorem map_keys (es : List Ent) (h : Hs) (v : Value) : (es.map (fun e => if e.k = h then { e with v := v } else e)).map (·.k) = es.map (·.k) := by
  rw [List.map_map]; apply List.map_congr_left; intro e _; simp only [Function.comp]; split <;> rfl
theorem map_borns (es : List Ent) (h : Hs) (v : Value) : (es.map (fun e => if e.k = h then { e with v := v } else e)).map (·.b) = es.map (·.b) := by
  rw [List.map_map]; apply List.map_congr_left; intro e _; simp only [Function.comp]; split <;> rfl
theorem HM.put {t E : TypeId} (hm : HM w b es) (ht : Try.prog.underlying t = some (.map 34 E)) (hl : h.length = 32) (v : Value) :
    ∃ w' nb, (Instr.mapUpdate t (.map (some b)) (hv h) v).run Try.prog w = .ok () w' ∧ HM w' b (hputE h v es nb) ∧ w.grownBy w' (some b) ∧ w'.heap.size = w.heap.size := by
  obtain ⟨clock, hb, h2, h3, h4, h5⟩ := hm
  obtain ⟨l, hkey⟩ := has_key h hl
  rcases run_find w hl h5 h4 with ⟨h6, h7⟩ | ⟨j, e, h6, h7, h8⟩
  · refine ⟨setBlock w b (.map ((es.map Ent.me).toArray.push ⟨hv h, v, clock⟩) (clock + 1)), clock, ?_, ⟨clock + 1, ?_, ?_, ?_, ?_, ?_⟩, grown_setBlock hb _, by simp [setBlock]⟩
    · simp [Instr.mapUpdate, run_underlying ht, MapKept.run_getObj_map hb, law34.check w false hkey, h7, MapKept.run_setObj_map _ hb, Result.andThen, setBlock]
    · have e := (MapKept.heap_set (o' := .map ((es.map Ent.me).toArray.push ⟨hv h, v, clock⟩) (clock + 1)) hb).1
      unfold hputE
      simp only [h6, Option.isSome_none, Bool.false_eq_true, if_false, List.map_append, List.map_cons, List.map_nil]
      rw [show (setBlock w b (.map ((es.map Ent.me).toArray.push ⟨hv h, v, clock⟩) (clock + 1))).heap[b]? = _ from e]
      congr 2
      apply Array.toList_inj.1
      simp [Ent.me]
    all_goals unfold hputE; simp only [h6, Option.isSome_none, Bool.false_eq_true, if_false]
    · intro e he
      rcases List.mem_append.1 he with he | he
      · have := h2 e he; omega
      · simp at he; subst he; show clock < clock + 1; omega
    · rw [List.map_append, List.nodup_append]
      refine ⟨h3, by simp, ?_⟩
      intro x hx y hy
      obtain ⟨e, he, rfl⟩ := List.mem_map.1 hx
      simp at hy; subst hy
      have := h2 e he; omega
    · rw [List.map_append, List.nodup_append]
      refine ⟨h4, by simp, ?_⟩
      intro x hx y hy
      obtain ⟨e, he, rfl⟩ := List.mem_map.1 hx
      simp at hy; subst hy
      exact hlook_none h6 e he
    · intro e he
      rcases List.mem_append.1 he with he | he
      · exact h5 e he
      · simp at he; subst he; exact hl
  · have hke := (hlook_some h6).2
    subst hke
    refine ⟨setBlock w b (.map ((es.map Ent.me).toArray.modify j fun x => { x with key := hv e.k, val := v }) clock), 0, ?_, ⟨clock, ?_, ?_, ?_, ?_, ?_⟩, grown_setBlock hb _, by simp [setBlock]⟩
    · have hg : (es.map Ent.me)[j]? = some e.me := by rw [List.getElem?_map, h7]; rfl
      simp [Instr.mapUpdate, run_underlying ht, MapKept.run_getObj_map hb, law34.check w false hkey, h8, h7, Ent.me, law34.stays w hkey, MapKept.run_setObj_map _ hb, Result.andThen, setBlock]
    · have e1 := (MapKept.heap_set (o' := .map ((es.map Ent.me).toArray.modify j fun x => { x with key := hv e.k, val := v }) clock) hb).1
      rw [show (setBlock w b (.map ((es.map Ent.me).toArray.modify j fun x => { x with key := hv e.k, val := v }) clock)).heap[b]? = _ from e1, modify_me v h4 h7]
      unfold hputE
      simp only [h6, Option.isSome_some, if_true]
    all_goals unfold hputE; simp only [h6, Option.isSome_some, if_true]
    · intro x hx
      obtain ⟨y, hy, rfl⟩ := List.mem_map.1 hx
      have := h2 y hy
      split <;> exact this
    · rw [map_borns]; exact h3
    · rw [map_keys]; exact h4
    · intro x hx
      obtain ⟨y, hy, rfl⟩ := List.mem_map.1 hx
      have := h5 y hy
      split <;> exact this
theorem HM.len {t E : TypeId} (hm : HM w b es) (ht : Try.prog.underlying t = some (.map 34 E)) (ty : TypeId) : (Builtin.len_ #[t] ty #[.map (some b)]).run Try.prog w = .ok (.int .i64 es.length) w := by
  obtain ⟨clock, hb, _⟩ := hm
  simp [Builtin.len_, run_underlying ht, MapKept.run_getObj_map hb, Result.andThen, goInt]
end
end Go.Proofs.Ytijkpkcopjkhkaa.Oct

/- Layer 12 (deps): maps whose keys are hashes: a place of an entry, a range. -/
namespace Go.Proofs.Ytijkpkcopjkhkaa.Oct
open Go.RowKit Go.WideMaps Go.ChangeMaps Go.MapKept

section
variable {w w' : World} {b : Nat} {es : List Ent} {h : Hs}
/-- the place of an entry, made where there is none -/
theorem HM.entry {t E : TypeId} (hm : HM w b es) (ht : Try.prog.underlying t = some (.map 34 E)) (hl : h.length = 32) {z : Value} (hz : ∀ W, (zeroValue E).run Try.prog W = .ok z W) :
    ∃ w1 e nb, (Instr.mapEntry t (.map (some b)) (hv h)).run Try.prog w = .ok (.tuple #[e.v, .int .i64 (e.b : Int)]) w1 ∧ HM w1 b (if (hlook h es).isSome then es else es ++ [⟨h, z, nb⟩]) ∧ (e ∈ if (hlook h es).isSome then es else es ++ [⟨h, z, nb⟩]) ∧ e.k = h ∧ (hlook h es = some e ∨ (hlook h es = none ∧ e.v = z)) ∧ w.grownBy w1 (some b) ∧ w1.heap.size = w.heap.size := by
  obtain ⟨clock, hb, h2, h3, h4, h5⟩ := hm
  obtain ⟨l, hkey⟩ := has_key h hl
  rcases run_find w hl h5 h4 with ⟨h6, h7⟩ | ⟨j, e, h6, h7, h8⟩
  · refine ⟨setBlock w b (.map ((es.map Ent.me).toArray.push ⟨hv h, z, clock⟩) (clock + 1)), ⟨h, z, clock⟩, clock, ?_, ⟨clock + 1, ?_, ?_, ?_, ?_, ?_⟩, ?_, rfl, .inr ⟨h6, rfl⟩, grown_setBlock hb _, by simp [setBlock]⟩
    · simp [Instr.mapEntry, run_underlying ht, MapKept.run_getObj_map hb, law34.check w false hkey, h7, hz, MapKept.run_setObj_map _ hb, Result.andThen, setBlock, goInt]
    · have e := (MapKept.heap_set (o' := .map ((es.map Ent.me).toArray.push ⟨hv h, z, clock⟩) (clock + 1)) hb).1
      simp only [h6, Option.isSome_none, Bool.false_eq_true, if_false, List.map_append, List.map_cons, List.map_nil]
      rw [show (setBlock w b (.map ((es.map Ent.me).toArray.push ⟨hv h, z, clock⟩) (clock + 1))).heap[b]? = _ from e]
      congr 2
      apply Array.toList_inj.1
      simp [Ent.me]
    all_goals simp only [h6, Option.isSome_none, Bool.false_eq_true, if_false]
    · intro e he
      rcases List.mem_append.1 he with he | he
      · have := h2 e he; omega
      · simp at he; subst he; show clock < clock + 1; omega
    · rw [List.map_append, List.nodup_append]
      refine ⟨h3, by simp, ?_⟩
      intro x hx y hy
      obtain ⟨e, he, rfl⟩ := List.mem_map.1 hx
      simp at hy; subst hy
      have := h2 e he; omega
    · rw [List.map_append, List.nodup_append]
      refine ⟨h4, by simp, ?_⟩
      intro x hx y hy
      obtain ⟨e, he, rfl⟩ := List.mem_map.1 hx
      simp at hy; subst hy
      exact hlook_none h6 e he
    · intro e he
      rcases List.mem_append.1 he with he | he
      · exact h5 e he
      · simp at he; subst he; exact hl
    · simp
  · have hke := (hlook_some h6).2
    subst hke
    have hmod : ((es.map Ent.me).toArray.modify j fun x => { x with key := hv e.k }) = (es.map Ent.me).toArray := by
      have hj : j < es.length := (List.getElem?_eq_some_iff.1 h7).1
      have hej : es[j] = e := (List.getElem?_eq_some_iff.1 h7).2
      apply Array.ext
      · simp
      · intro i h1 h2
        rw [Array.getElem_modify]
        simp only [List.getElem_toArray, List.getElem_map]
        by_cases hij : j = i
        · subst hij; simp [hej, Ent.me]
        · simp [hij]
    refine ⟨setBlock w b (.map (es.map Ent.me).toArray clock), e, 0, ?_, ⟨clock, ?_, ?_, ?_, ?_, ?_⟩, ?_, rfl, .inl h6, grown_setBlock hb _, by simp [setBlock]⟩
    · simp [Instr.mapEntry, run_underlying ht, MapKept.run_getObj_map hb, law34.check w false hkey, h8, h7, Ent.me, law34.stays w hkey, MapKept.run_setObj_map _ hb, Result.andThen, setBlock, goInt]
      have h9 : ((es.map Ent.me).modify j fun x => { x with key := hv e.k }) = es.map Ent.me := by simpa using congrArg Array.toList hmod
      rw [h9]
    · have e1 := (MapKept.heap_set (o' := .map (es.map Ent.me).toArray clock) hb).1
      simp only [h6, Option.isSome_some, if_true]
      exact e1
    all_goals simp only [h6, Option.isSome_some, if_true]
    · exact h2
    · exact h3
    · exact h4
    · exact h5
    · exact (hlook_some h6).1
/-- a value stored at that place -/
theorem HM.estore {t : TypeId} {e : Ent} (hm : HM w b es) (he : e ∈ es) (v : Value) :
    ∃ w', (Instr.entryStore t (.map (some b)) (.int .i64 (e.b : Int)) v).run Try.prog w = .ok () w' ∧ HM w' b (es.map (fun x => if x.k = e.k then { x with v := v } else x)) ∧ w.grownBy w' (some b) ∧ w'.heap.size = w.heap.size := by
  obtain ⟨clock, hb, h2, h3, h4, h5⟩ := hm
  obtain ⟨j, hj, hej⟩ := List.mem_iff_getElem.1 he
  have hfi : (es.map Ent.me).toArray.findIdx? (fun x => (x.born : Int) == (e.b : Int)) = some j := by
    rw [List.findIdx?_toArray, List.findIdx?_eq_some_iff_getElem]
    refine ⟨by simpa using hj, ?_, ?_⟩
    · simp [hej, Ent.me]
    · intro i hi
      have hi' : i < es.length := by omega
      simp only [List.getElem_map, Ent.me]
      have hp := List.pairwise_iff_getElem.1 (List.nodup_iff_pairwise_ne.1 h3) i j (by simpa using hi') (by simpa using hj) hi
      simp [hej] at hp
      simp; omega
  have h7 : es[j]? = some e := by rw [List.getElem?_eq_getElem hj, hej]
  have hmod := modify_me v h4 h7
  have hmod2 : ((es.map Ent.me).toArray.modify j fun x => { x with val := v }) = ((es.map (fun x => if x.k = e.k then { x with v := v } else x)).map Ent.me).toArray := by
    rw [← hmod]
    apply Array.ext
    · simp
    · intro i h1 h2
      rw [Array.getElem_modify, Array.getElem_modify]
      split
      · rename_i hij; subst hij; simp [hej, Ent.me]
      · rfl
  refine ⟨setBlock w b (.map ((es.map Ent.me).toArray.modify j fun x => { x with val := v }) clock), ?_, ⟨clock, ?_, ?_, ?_, ?_, ?_⟩, grown_setBlock hb _, by simp [setBlock]⟩
  · have ha : (asInt (.int .i64 (e.b : Int))).run Try.prog w = .ok (e.b : Int) w := by simp [asInt, asIntOf]
    simp only [Instr.entryStore, MapKept.run_getObj_map hb, Sem.run_bind, Result.andThen, ha, hfi]
    exact MapKept.run_setObj_map _ hb
  · have e1 := (MapKept.heap_set (o' := .map ((es.map Ent.me).toArray.modify j fun x => { x with val := v }) clock) hb).1
    rw [show (setBlock w b (.map ((es.map Ent.me).toArray.modify j fun x => { x with val := v }) clock)).heap[b]? = _ from e1, hmod2]
  · intro x hx
    obtain ⟨y, hy, rfl⟩ := List.mem_map.1 hx
    have := h2 y hy
    split <;> exact this
  · rw [map_borns]; exact h3
  · rw [map_keys]; exact h4
  · intro x hx
    obtain ⟨y, hy, rfl⟩ := List.mem_map.1 hx
    have := h5 y hy
    split <;> exact this

/-- a range under way: those entries are left -/
def HMR (w : World) (b r : Nat) (es left : List Ent) : Prop :=
  ∃ clock seen, w.heap[b]? = some (.map (es.map Ent.me).toArray clock) ∧ w.heap[r]? = some (.mapIter (some b) clock seen clock) ∧ left = es.filter (fun e => !seen.contains e.b) ∧ (∀ e ∈ es, e.b < clock) ∧ (es.map (·.b)).Nodup ∧ (es.map (·.k)).Nodup ∧ ∀ e ∈ es, e.k.length = 32
theorem HMR.hm {r : Nat} {left : List Ent} (hr : HMR w b r es left) : HM w b es := by
  obtain ⟨clock, seen, h1, _, _, h2⟩ := hr
  exact ⟨clock, h1, h2⟩
theorem HMR.same {r : Nat} {left : List Ent} (hr : HMR w b r es left) (hb : w'.heap[b]? = w.heap[b]?) (hi : w'.heap[r]? = w.heap[r]?) : HMR w' b r es left := by
  obtain ⟨clock, seen, h1, h2, h3⟩ := hr
  exact ⟨clock, seen, hb.trans h1, hi.trans h2, h3⟩
theorem HMR.lt {r : Nat} {left : List Ent} (hr : HMR w b r es left) : b < w.heap.size ∧ r < w.heap.size ∧ b ≠ r := by
  obtain ⟨clock, seen, h1, h2, h3⟩ := hr
  refine ⟨(Array.getElem?_eq_some_iff.1 h1).1, (Array.getElem?_eq_some_iff.1 h2).1, ?_⟩
  rintro rfl
  rw [h1] at h2
  cases h2
theorem HM.range {t E : TypeId} (hm : HM w b es) (ht : Try.prog.underlying t = some (.map 34 E)) :
    ∃ w', (Instr.range t (.map (some b))).run Try.prog w = .ok (.pointer (some ⟨w.heap.size, 0, none⟩)) w' ∧ HMR w' b w.heap.size es es ∧ Below w.heap.size w w' ∧ w'.heap.size = w.heap.size + 1 := by
  have hlt := hm.lt
  obtain ⟨clock, hb, h2, h3, h4, h5⟩ := hm
  refine ⟨_, run_range_map w t 34 E b _ clock ht hb, ⟨clock, #[], (Below.heap_alloc w _ b hlt).trans hb, heap_alloc_new w _, by symm; exact List.filter_eq_self.2 (by simp), h2, h3, h4, h5⟩, (Below.refl _ w).alloc (Nat.le_refl _) _, by simp⟩
theorem filter_seen (es : List Ent) (seen : Array Nat) : (leftOf (es.map Ent.me).toArray seen).toList = (es.filter (fun e => !seen.contains e.b)).map Ent.me := by
  unfold leftOf
  rw [Array.toList_filter]
  show (es.map Ent.me).filter _ = _
  rw [List.filter_map]
  rfl
theorem perm_out {e : Ent} : ∀ (l : List Ent), (l.map (·.b)).Nodup → e ∈ l → l.Perm (e :: l.filter (fun x => x.b != e.b))
  | [], _, h => by cases h
  | x :: l, hn, he => by
    simp only [List.map_cons, List.nodup_cons] at hn
    rcases List.mem_cons.1 he with rfl | he
    · have e1 : (e :: l).filter (fun x => x.b != e.b) = l := by
        rw [List.filter_cons, if_neg (by simp)]
        refine List.filter_eq_self.2 fun y hy => ?_
        have : y.b ≠ e.b := fun hc => hn.1 (List.mem_map.2 ⟨y, hy, hc⟩)
        simpa using this
      rw [e1]
    · have hne : x.b ≠ e.b := fun hc => hn.1 (List.mem_map.2 ⟨e, he, hc.symm⟩)
      rw [List.filter_cons, if_pos (by simpa using hne)]
      exact ((perm_out l hn.2 he).cons x).trans (List.Perm.swap e x _)
/-- the step -/
theorem HMR.next {r : Nat} {left : List Ent} (hr : HMR w b r es left) (ty : TypeId) :
    (left = [] ∧ (Instr.next (.pointer (some ⟨r, 0, none⟩)) false ty).run Try.prog w = .ok (.tuple #[.bool false]) w) ∨
    ∃ e left' w', e ∈ left ∧ left.Perm (e :: left') ∧ (Instr.next (.pointer (some ⟨r, 0, none⟩)) false ty).run Try.prog w = .ok (.tuple #[.bool true, hv e.k, e.v]) w' ∧ HMR w' b r es left' ∧ w.grownBy w' (some r) ∧ w'.heap.size = w.heap.size ∧ (Instr.entry (.pointer (some ⟨r, 0, none⟩))).run Try.prog w' = .ok (.tuple #[hv e.k, e.v]) w' := by
  have hne := hr.lt.2.2
  obtain ⟨clock, seen, hb, hi, hl, h2, h3, h4, h5⟩ := hr
  rcases run_next_at (P := Try.prog) w ty r b clock clock seen _ clock hi hb (by
    intro x hx
    simp only [List.mem_map] at hx
    obtain ⟨e, he, rfl⟩ := hx
    exact h2 e he) (Nat.le_refl _) with ⟨h6, h7⟩ | ⟨x, hx, w1, hw1, hrun⟩
  · refine .inl ⟨?_, h7⟩
    have := filter_seen es seen
    rw [← hl] at this
    have hz : (leftOf (es.map Ent.me).toArray seen).toList.length = 0 := by simpa using h6
    rw [this] at hz
    simpa using hz
  · rw [filter_seen, ← hl] at hx
    obtain ⟨e, he, rfl⟩ := List.mem_map.1 hx
    have hb1 : w1.heap[b]? = some (.map (es.map Ent.me).toArray clock) := by rcases hw1 with rfl | rfl <;> exact hb
    have hr1 : w1.heap[r]? = some (.mapIter (some b) clock seen clock) := by rcases hw1 with rfl | rfl <;> exact hi
    have hset := MapKept.heap_set (o' := .mapIter (some b) clock (seen.push e.me.born) clock) hr1
    have hee : e ∈ es := by rw [hl] at he; exact (List.mem_filter.1 he).1
    refine .inr ⟨e, es.filter (fun x => !(seen.push e.b).contains x.b), _, he, ?_, hrun, ⟨clock, seen.push e.b, (hset.2 b hne).trans hb1, hset.1, rfl, h2, h3, h4, h5⟩, ?_, ?_, ?_⟩
    · have hnd : (left.map (·.b)).Nodup := by
        rw [hl]
        exact List.Nodup.sublist (List.Sublist.map _ List.filter_sublist) h3
      have e1 : es.filter (fun x => !(seen.push e.b).contains x.b) = left.filter (fun x => x.b != e.b) := by
        rw [hl, List.filter_filter]
        apply List.filter_congr
        intro x _
        by_cases h1 : x.b ∈ seen <;> by_cases h2 : x.b = e.b <;> simp [h1, h2]
      rw [e1]
      exact perm_out left hnd he
    · rcases hw1 with rfl | rfl
      · exact ⟨rfl, rfl, rfl, by simp [setBlock], fun i _ hi => hset.2 i (fun e => hi (by rw [e]))⟩
      · exact ⟨rfl, rfl, rfl, by simp [setBlock], fun i _ hi => hset.2 i (fun e => hi (by rw [e]))⟩
    · rcases hw1 with rfl | rfl <;> simp [setBlock]
    · exact run_entry_at _ r b clock seen _ clock e.me hset.1 ((hset.2 b hne).trans hb1) (List.mem_map.2 ⟨e, hee, rfl⟩) (by simpa [List.map_map, Function.comp_def, Ent.me] using h3)
end
end Go.Proofs.Ytijkpkcopjkhkaa.Oct

/- Layer 12 (deps): hashes held against each other; lists of hashes; Place, Hashes, isLong. -/
namespace Go.Proofs.Ytijkpkcopjkhkaa.Oct
open Go.RowKit

theorem part5 (xs : Array Value) (i : Nat) (v : Value) (h : xs[i]? = some v) (W : World) : (part 5 xs i).run Try.prog W = .ok v W := by
  simp [part, isAgg, run_underlying Try.underlying5, h]
theorem eqItems_is (a b : Hs) (ha : a.length = 32) (hb : b.length = 32) (W : World) : ∀ is : List Nat, (∀ i ∈ is, i < 32) → (Op.eqItems 9999 5 1 (U a).toArray (U b).toArray is).run Try.prog W = .ok (is.all fun i => a[i]? == b[i]?) W
  | [], _ => by simp [Op.eqItems]
  | i :: is, h => by
    have hi : i < 32 := h i (by simp)
    have hia : i < a.length := by omega
    have hib : i < b.length := by omega
    have hp := part5 (U a).toArray i _ (by rw [List.getElem?_toArray]; exact U_get a i hia) W
    have hp2 := part5 (U b).toArray i _ (by rw [List.getElem?_toArray]; exact U_get b i hib) W
    have he := run_equalIn_int (P := Try.prog) (w := W) 9998 5 .u8 .u8 (a[i].toNat : Int) (b[i].toNat : Int) Try.underlying5
    have ih := eqItems_is a b ha hb W is (fun j hj => h j (by simp [hj]))
    have e1 : (a[i]? == b[i]?) = ((a[i].toNat : Int) == (b[i].toNat : Int)) := by
      rw [List.getElem?_eq_getElem hia, List.getElem?_eq_getElem hib]
      by_cases hc : a[i] = b[i]
      · simp [hc]
      · have : ¬ (a[i].toNat : Int) = b[i].toNat := fun hx => hc (UInt8.toNat_inj.1 (by omega))
        rw [beq_eq_false_iff_ne.2 this]
        simpa using hc
    simp only [Op.eqItems, Sem.run_bind, Nat.mul_one, hp, hp2, Result.andThen_ok, he]
    simp only [List.all_cons, e1]
    cases hc : ((a[i].toNat : Int) == (b[i].toNat : Int)) with
    | true => simpa using ih
    | false => simp
theorem eqH (a b : Hs) (ha : a.length = 32) (hb : b.length = 32) (W : World) : (Op.equalIn 10000 34 (.agg (U a).toArray) (.agg (U b).toArray)).run Try.prog W = .ok (decide (a = b)) W := by
  obtain ⟨i, hi, -⟩ := Option.map_eq_some_iff.1 (show (Try.prog.info? 5).map (·.size) = some 1 by kernel_rfl)
  rw [run_equalIn_array W 9999 (U a).toArray (U b).toArray Try.underlying34 hi, show Try.prog.cellsOf 5 = 1 by kernel_rfl, eqItems_is a b ha hb W _ (by intro i hi; rw [List.mem_range] at hi; omega)]
  congr 1
  rw [Bool.eq_iff_iff]
  simp only [List.all_eq_true, List.mem_range, beq_iff_eq, decide_eq_true_eq]
  constructor
  · intro h
    apply List.ext_getElem?
    intro i
    by_cases hi : i < 32
    · exact h i hi
    · rw [List.getElem?_eq_none (by omega), List.getElem?_eq_none (by omega)]
  · rintro rfl i _; rfl

/-- a list of hashes that can be read -/
def HsR (w : World) (a : Option Addr) (n : Nat) (hs : List Hs) : Prop :=
  hs.length = n ∧ (∀ h ∈ hs, h.length = 32) ∧ (0 < n → ∃ g off, a = some ⟨g, off, none⟩ ∧ g < w.heap.size ∧ ∀ i h, hs[i]? = some h → w.rangeAt g (off + i * 32) (U h))
theorem rangeAt_same {w w' : World} {g o : Nat} {cs : List Value} (h : w.rangeAt g o cs) (hs : w'.heap[g]? = w.heap[g]?) : w'.rangeAt g o cs := by
  intro j v hj
  rw [← h j v hj]
  simp only [World.cell?, hs]
theorem HsR.same {w w' : World} {a : Option Addr} {n : Nat} {hs : List Hs} (h : HsR w a n hs) (hsz : w.heap.size ≤ w'.heap.size) (hk : ∀ g off, a = some ⟨g, off, none⟩ → w'.heap[g]? = w.heap[g]?) : HsR w' a n hs := by
  refine ⟨h.1, h.2.1, fun hp => ?_⟩
  obtain ⟨g, off, e, h1, h2⟩ := h.2.2 hp
  exact ⟨g, off, e, by omega, fun i x hx => rangeAt_same (h2 i x hx) (hk g off e)⟩
theorem HsR.below {w w' : World} {a : Option Addr} {n : Nat} {hs : List Hs} (h : HsR w a n hs) (hb : Below w.heap.size w w') : HsR w' a n hs := by
  refine ⟨h.1, h.2.1, fun hp => ?_⟩
  obtain ⟨g, off, e, h1, h2⟩ := h.2.2 hp
  exact ⟨g, off, e, Nat.lt_of_lt_of_le h1 hb.size, fun i x hx => rangeAt_same (h2 i x hx) (hb.block g h1)⟩
theorem HsR.nil (w : World) (a : Option Addr) : HsR w a 0 [] := ⟨rfl, by simp, fun h => absurd h (by omega)⟩
theorem info34 : ∀ (h : Hs), h.length = 32 → (Try.prog.info? 34).map (·.size) = some (U h).length := by
  intro h hl; rw [U_length, hl]; kernel_rfl

/-- the first place of a hash, or -1 -/
def placeOf (h : Hs) (hs : List Hs) : Int := match hs.findIdx? (· == h) with | some i => i | none => -1
theorem placeOf_at {h : Hs} {hs : List Hs} {i : Nat} (hi : hs[i]? = some h) (hn : ∀ j x, j < i → hs[j]? = some x → x ≠ h) : placeOf h hs = i := by
  unfold placeOf
  obtain ⟨hlt, hx⟩ := List.getElem?_eq_some_iff.1 hi
  have : hs.findIdx? (· == h) = some i := by
    rw [List.findIdx?_eq_some_iff_getElem]
    refine ⟨hlt, by simp [hx], fun j hj => ?_⟩
    have := hn j hs[j] hj (List.getElem?_eq_getElem (by omega))
    simpa using this
  rw [this]
theorem placeOf_no {h : Hs} {hs : List Hs} (hn : ∀ x ∈ hs, x ≠ h) : placeOf h hs = -1 := by
  unfold placeOf
  have : hs.findIdx? (· == h) = none := by
    rw [List.findIdx?_eq_none_iff]
    intro x hx
    have := hn x hx
    simpa using this
  rw [this]
theorem placeOf_mem (h : Hs) (hs : List Hs) : 0 ≤ placeOf h hs ↔ h ∈ hs := by
  constructor
  · intro hp
    refine Classical.byContradiction fun hc => ?_
    rw [placeOf_no (h := h) (fun x hx e => hc (by rw [← e]; exact hx))] at hp
    omega
  · intro hm
    unfold placeOf
    cases he : hs.findIdx? (· == h) with
    | none =>
      rw [List.findIdx?_eq_none_iff] at he
      have := he h hm
      simp at this
    | some i => simp

end Go.Proofs.Ytijkpkcopjkhkaa.Oct

/- Layer 12 (deps): the comparisons of Place and Hashes, whatever their order. -/
namespace Go.Proofs.Ytijkpkcopjkhkaa.Oct
open Go.RowKit

set_option maxRecDepth 100000 in
set_option maxHeartbeats 2000000 in
theorem place_region {Q : Exit → Act → World → Prop} {x1 x2 x4 x6 x7 x8 x9 x10 x11 x12 x13 x14 x15 x16 x17 x18 : Value} {ds : List Deferred} {A : World} {g off n c hb i : Nat} {x h : Hs} {r : Bool}
    (hx : x.length = 32) (hh : h.length = 32) (q1 : (i : Int) < (n : Int)) (heq : ∀ W, (Op.equalIn 10000 34 (.agg (U x).toArray) (.agg (U h).toArray)).run Try.prog W = .ok r W) (hS : A.drew.rangeAt g (off + i * 32) (U x) ∧ A.drew.rangeAt hb 0 (U h))
    (hQ : Q .normal { tmps := #[.slice (some ⟨g, off, none⟩) n c, x1, x2, .pointer (some ⟨hb, 0, none⟩), x4, .int .i64 (i : Int), x6, x7, x8, x9, x10, x11, .slice (some ⟨g, off, none⟩) n c, .int .i64 (i : Int), .pointer (some ⟨g, off + i * 32, none⟩), .agg (U x).toArray, .agg (U h).toArray, .bool r, x18], defers := ds } A.drew) :
    (Code.region 4 #[{ dst := some 12, op := Op.move (Operand.tmp 0), type := 26, pos := "ref.go:35", after := #[], guard := none }, { dst := some 13, op := Op.move (Operand.tmp 5), type := 3, pos := "ref.go:35", after := #[], guard := none }, { dst := some 14, op := Op.indexAddr 26 (Operand.tmp 12) (Operand.tmp 13), type := 0, pos := "ref.go:35", after := #[{ on := 0, ground := Ground.data }, { on := 1, ground := Ground.data }], guard := none }, { dst := some 15, op := Op.load 34 (Operand.tmp 14), type := 34, pos := "ref.go:35", after := #[{ on := 2, ground := Ground.data }], guard := none }, { dst := some 16, op := Op.load 34 (Operand.tmp 3), type := 34, pos := "ref.go:35", after := #[], guard := none }, { dst := some 17, op := Op.binOp BinOp.eql 34 (Operand.tmp 15) (Operand.tmp 16) 34, type := 4, pos := "ref.go:35", after := #[{ on := 3, ground := Ground.data }, { on := 4, ground := Ground.data }], guard := none }] true).wp Try.prog Q { tmps := #[.slice (some ⟨g, off, none⟩) n c, x1, x2, .pointer (some ⟨hb, 0, none⟩), x4, .int .i64 (i : Int), x6, x7, x8, x9, x10, x11, x12, x13, x14, x15, x16, x17, x18], defers := ds } A := by
  refine Code.wp_mono (Q := fun x a' w' => match x with | .normal => Q .normal a' w' | _ => False) (by intro x a' w' h; cases x <;> first | exact h | exact h.elim) ?_
  obtain ⟨S, hSd⟩ : ∃ S : World → Prop, S = fun W => W.rangeAt g (off + i * 32) (U x) ∧ W.rangeAt hb 0 (U h) := ⟨_, rfl⟩
  refine wp_region_held (S := S) (by kernel_rfl) ?_
  have hS' : S A.drew := by rw [hSd]; exact hS
  clear hS
  change wpAnyH Try.prog .any _ _ S 6 (Array.replicate 6 false) _ A.drew
  refine wpAnyH_take (i := 0) (oi := { dst := some 12, op := Op.move (Operand.tmp 0), type := 26, pos := "ref.go:35", after := #[], guard := none }) (v := .slice (some ⟨g, off, none⟩) n c) rfl (by kernel_rfl) (by kernel_rfl) (by kernel_rfl) (fun _ _ _ h => h.elim) (Or.inl ⟨by rfl, ?y0⟩) hS' ?_
  case y0 =>
    intro W hW
    rw [hSd] at hW; obtain ⟨s1, s2⟩ := hW
    go_simp
  simp only [Act.put, List.setIfInBounds_toArray, List.set_cons_zero, List.set_cons_succ]
  refine wpAnyH_take (i := 1) (oi := { dst := some 13, op := Op.move (Operand.tmp 5), type := 3, pos := "ref.go:35", after := #[], guard := none }) (v := .int .i64 (i : Int)) rfl (by kernel_rfl) (by kernel_rfl) (by kernel_rfl) (fun _ _ _ h => h.elim) (Or.inl ⟨by rfl, ?y1⟩) hS' ?_
  case y1 =>
    intro W hW
    rw [hSd] at hW; obtain ⟨s1, s2⟩ := hW
    go_simp
  simp only [Act.put, List.setIfInBounds_toArray, List.set_cons_zero, List.set_cons_succ]
  refine wpAnyH_take (i := 2) (oi := { dst := some 14, op := Op.indexAddr 26 (Operand.tmp 12) (Operand.tmp 13), type := 0, pos := "ref.go:35", after := #[{ on := 0, ground := Ground.data }, { on := 1, ground := Ground.data }], guard := none }) (v := .pointer (some ⟨g, off + i * 32, none⟩)) rfl (by kernel_rfl) (by kernel_rfl) (by kernel_rfl) (fun _ _ _ h => h.elim) (Or.inl ⟨by rfl, ?y2⟩) hS' ?_
  case y2 =>
    intro W hW
    rw [hSd] at hW; obtain ⟨s1, s2⟩ := hW
    go_simp
  simp only [Act.put, List.setIfInBounds_toArray, List.set_cons_zero, List.set_cons_succ]
  refine wpAnyH_take (i := 3) (oi := { dst := some 15, op := Op.load 34 (Operand.tmp 14), type := 34, pos := "ref.go:35", after := #[{ on := 2, ground := Ground.data }], guard := none }) (v := .agg (U x).toArray) rfl (by kernel_rfl) (by kernel_rfl) (by kernel_rfl) (fun _ _ _ h => h.elim) (yieldsIf_load_mid (by rfl) _ _ rfl _ _ rfl (U x) _ (fun W hW => by rw [hSd] at hW; obtain ⟨s1, s2⟩ := hW; exact s1) Try.underlying34 rfl (info34 x hx)) hS' ?_
  simp only [Act.put, List.setIfInBounds_toArray, List.set_cons_zero, List.set_cons_succ]
  refine wpAnyH_take (i := 4) (oi := { dst := some 16, op := Op.load 34 (Operand.tmp 3), type := 34, pos := "ref.go:35", after := #[], guard := none }) (v := .agg (U h).toArray) rfl (by kernel_rfl) (by kernel_rfl) (by kernel_rfl) (fun _ _ _ h => h.elim) (yieldsIf_load_mid (by rfl) _ _ rfl _ _ rfl (U h) _ (fun W hW => by rw [hSd] at hW; obtain ⟨s1, s2⟩ := hW; exact s2) Try.underlying34 rfl (info34 h hh)) hS' ?_
  simp only [Act.put, List.setIfInBounds_toArray, List.set_cons_zero, List.set_cons_succ]
  refine wpAnyH_take (i := 5) (oi := { dst := some 17, op := Op.binOp BinOp.eql 34 (Operand.tmp 15) (Operand.tmp 16) 34, type := 4, pos := "ref.go:35", after := #[{ on := 3, ground := Ground.data }, { on := 4, ground := Ground.data }], guard := none }) (v := .bool r) rfl (by kernel_rfl) (by kernel_rfl) (by kernel_rfl) (fun _ _ _ h => h.elim) (Or.inl ⟨by rfl, ?y5⟩) hS' ?_
  case y5 =>
    intro W hW
    rw [hSd] at hW; obtain ⟨s1, s2⟩ := hW
    go_simp
  simp only [Act.put, List.setIfInBounds_toArray, List.set_cons_zero, List.set_cons_succ]
  refine wpAnyH_done (by kernel_rfl) ?_ _
  exact hQ
set_option maxRecDepth 100000 in
set_option maxHeartbeats 2000000 in
theorem hashes_region {Q : Exit → Act → World → Prop} {x2 x3 x4 x6 x7 x8 x9 x10 x11 x12 x13 x14 x15 x16 x17 x18 x19 x20 x21 x22 x23 x24 x25 : Value} {ds : List Deferred} {A : World} {g off g2 off2 n c c2 i : Nat} {x y : Hs} {r : Bool}
    (hx : x.length = 32) (hy : y.length = 32) (q1 : (i : Int) < (n : Int)) (heq : ∀ W, (Op.equalIn 10000 34 (.agg (U x).toArray) (.agg (U y).toArray)).run Try.prog W = .ok r W) (hS : A.drew.rangeAt g (off + i * 32) (U x) ∧ A.drew.rangeAt g2 (off2 + i * 32) (U y))
    (hQ : Q .normal { tmps := #[.slice (some ⟨g, off, none⟩) n c, .slice (some ⟨g2, off2, none⟩) n c2, x2, x3, x4, .int .i64 (i : Int), x6, x7, x8, x9, x10, x11, x12, x13, x14, x15, x16, .slice (some ⟨g, off, none⟩) n c, .int .i64 (i : Int), .pointer (some ⟨g, off + i * 32, none⟩), .agg (U x).toArray, .slice (some ⟨g2, off2, none⟩) n c2, .int .i64 (i : Int), .pointer (some ⟨g2, off2 + i * 32, none⟩), .agg (U y).toArray, .bool (!r)], defers := ds } A.drew) :
    (Code.region 6 #[{ dst := some 17, op := Op.move (Operand.tmp 0), type := 26, pos := "ref.go:286", after := #[], guard := none }, { dst := some 18, op := Op.move (Operand.tmp 5), type := 3, pos := "ref.go:286", after := #[], guard := none }, { dst := some 19, op := Op.indexAddr 26 (Operand.tmp 17) (Operand.tmp 18), type := 0, pos := "ref.go:286", after := #[{ on := 0, ground := Ground.data }, { on := 1, ground := Ground.data }], guard := none }, { dst := some 20, op := Op.load 34 (Operand.tmp 19), type := 34, pos := "ref.go:286", after := #[{ on := 2, ground := Ground.data }], guard := none }, { dst := some 21, op := Op.move (Operand.tmp 1), type := 26, pos := "ref.go:286", after := #[], guard := none }, { dst := some 22, op := Op.move (Operand.tmp 5), type := 3, pos := "ref.go:286", after := #[], guard := none }, { dst := some 23, op := Op.indexAddr 26 (Operand.tmp 21) (Operand.tmp 22), type := 0, pos := "ref.go:286", after := #[{ on := 4, ground := Ground.data }, { on := 5, ground := Ground.data }], guard := none }, { dst := some 24, op := Op.load 34 (Operand.tmp 23), type := 34, pos := "ref.go:286", after := #[{ on := 6, ground := Ground.data }], guard := none }, { dst := some 25, op := Op.binOp BinOp.neq 34 (Operand.tmp 20) (Operand.tmp 24) 34, type := 4, pos := "ref.go:286", after := #[{ on := 3, ground := Ground.data }, { on := 7, ground := Ground.data }], guard := none }] true).wp Try.prog Q { tmps := #[.slice (some ⟨g, off, none⟩) n c, .slice (some ⟨g2, off2, none⟩) n c2, x2, x3, x4, .int .i64 (i : Int), x6, x7, x8, x9, x10, x11, x12, x13, x14, x15, x16, x17, x18, x19, x20, x21, x22, x23, x24, x25], defers := ds } A := by
  refine Code.wp_mono (Q := fun x a' w' => match x with | .normal => Q .normal a' w' | _ => False) (by intro x a' w' h; cases x <;> first | exact h | exact h.elim) ?_
  obtain ⟨S, hSd⟩ : ∃ S : World → Prop, S = fun W => W.rangeAt g (off + i * 32) (U x) ∧ W.rangeAt g2 (off2 + i * 32) (U y) := ⟨_, rfl⟩
  refine wp_region_held (S := S) (by kernel_rfl) ?_
  have hS' : S A.drew := by rw [hSd]; exact hS
  clear hS
  change wpAnyH Try.prog .any _ _ S 9 (Array.replicate 9 false) _ A.drew
  refine wpAnyH_take (i := 0) (oi := { dst := some 17, op := Op.move (Operand.tmp 0), type := 26, pos := "ref.go:286", after := #[], guard := none }) (v := .slice (some ⟨g, off, none⟩) n c) rfl (by kernel_rfl) (by kernel_rfl) (by kernel_rfl) (fun _ _ _ h => h.elim) (Or.inl ⟨by rfl, ?y0⟩) hS' ?_
  case y0 =>
    intro W hW
    rw [hSd] at hW; obtain ⟨s1, s2⟩ := hW
    go_simp
  simp only [Act.put, List.setIfInBounds_toArray, List.set_cons_zero, List.set_cons_succ]
  refine wpAnyH_take (i := 1) (oi := { dst := some 18, op := Op.move (Operand.tmp 5), type := 3, pos := "ref.go:286", after := #[], guard := none }) (v := .int .i64 (i : Int)) rfl (by kernel_rfl) (by kernel_rfl) (by kernel_rfl) (fun _ _ _ h => h.elim) (Or.inl ⟨by rfl, ?y1⟩) hS' ?_
  case y1 =>
    intro W hW
    rw [hSd] at hW; obtain ⟨s1, s2⟩ := hW
    go_simp
  simp only [Act.put, List.setIfInBounds_toArray, List.set_cons_zero, List.set_cons_succ]
  refine wpAnyH_take (i := 2) (oi := { dst := some 19, op := Op.indexAddr 26 (Operand.tmp 17) (Operand.tmp 18), type := 0, pos := "ref.go:286", after := #[{ on := 0, ground := Ground.data }, { on := 1, ground := Ground.data }], guard := none }) (v := .pointer (some ⟨g, off + i * 32, none⟩)) rfl (by kernel_rfl) (by kernel_rfl) (by kernel_rfl) (fun _ _ _ h => h.elim) (Or.inl ⟨by rfl, ?y2⟩) hS' ?_
  case y2 =>
    intro W hW
    rw [hSd] at hW; obtain ⟨s1, s2⟩ := hW
    go_simp
  simp only [Act.put, List.setIfInBounds_toArray, List.set_cons_zero, List.set_cons_succ]
  refine wpAnyH_take (i := 3) (oi := { dst := some 20, op := Op.load 34 (Operand.tmp 19), type := 34, pos := "ref.go:286", after := #[{ on := 2, ground := Ground.data }], guard := none }) (v := .agg (U x).toArray) rfl (by kernel_rfl) (by kernel_rfl) (by kernel_rfl) (fun _ _ _ h => h.elim) (yieldsIf_load_mid (by rfl) _ _ rfl _ _ rfl (U x) _ (fun W hW => by rw [hSd] at hW; obtain ⟨s1, s2⟩ := hW; exact s1) Try.underlying34 rfl (info34 x hx)) hS' ?_
  simp only [Act.put, List.setIfInBounds_toArray, List.set_cons_zero, List.set_cons_succ]
  refine wpAnyH_take (i := 4) (oi := { dst := some 21, op := Op.move (Operand.tmp 1), type := 26, pos := "ref.go:286", after := #[], guard := none }) (v := .slice (some ⟨g2, off2, none⟩) n c2) rfl (by kernel_rfl) (by kernel_rfl) (by kernel_rfl) (fun _ _ _ h => h.elim) (Or.inl ⟨by rfl, ?y4⟩) hS' ?_
  case y4 =>
    intro W hW
    rw [hSd] at hW; obtain ⟨s1, s2⟩ := hW
    go_simp
  simp only [Act.put, List.setIfInBounds_toArray, List.set_cons_zero, List.set_cons_succ]
  refine wpAnyH_take (i := 5) (oi := { dst := some 22, op := Op.move (Operand.tmp 5), type := 3, pos := "ref.go:286", after := #[], guard := none }) (v := .int .i64 (i : Int)) rfl (by kernel_rfl) (by kernel_rfl) (by kernel_rfl) (fun _ _ _ h => h.elim) (Or.inl ⟨by rfl, ?y5⟩) hS' ?_
  case y5 =>
    intro W hW
    rw [hSd] at hW; obtain ⟨s1, s2⟩ := hW
    go_simp
  simp only [Act.put, List.setIfInBounds_toArray, List.set_cons_zero, List.set_cons_succ]
  refine wpAnyH_take (i := 6) (oi := { dst := some 23, op := Op.indexAddr 26 (Operand.tmp 21) (Operand.tmp 22), type := 0, pos := "ref.go:286", after := #[{ on := 4, ground := Ground.data }, { on := 5, ground := Ground.data }], guard := none }) (v := .pointer (some ⟨g2, off2 + i * 32, none⟩)) rfl (by kernel_rfl) (by kernel_rfl) (by kernel_rfl) (fun _ _ _ h => h.elim) (Or.inl ⟨by rfl, ?y6⟩) hS' ?_
  case y6 =>
    intro W hW
    rw [hSd] at hW; obtain ⟨s1, s2⟩ := hW
    go_simp
  simp only [Act.put, List.setIfInBounds_toArray, List.set_cons_zero, List.set_cons_succ]
  refine wpAnyH_take (i := 7) (oi := { dst := some 24, op := Op.load 34 (Operand.tmp 23), type := 34, pos := "ref.go:286", after := #[{ on := 6, ground := Ground.data }], guard := none }) (v := .agg (U y).toArray) rfl (by kernel_rfl) (by kernel_rfl) (by kernel_rfl) (fun _ _ _ h => h.elim) (yieldsIf_load_mid (by rfl) _ _ rfl _ _ rfl (U y) _ (fun W hW => by rw [hSd] at hW; obtain ⟨s1, s2⟩ := hW; exact s2) Try.underlying34 rfl (info34 y hy)) hS' ?_
  simp only [Act.put, List.setIfInBounds_toArray, List.set_cons_zero, List.set_cons_succ]
  refine wpAnyH_take (i := 8) (oi := { dst := some 25, op := Op.binOp BinOp.neq 34 (Operand.tmp 20) (Operand.tmp 24) 34, type := 4, pos := "ref.go:286", after := #[{ on := 3, ground := Ground.data }, { on := 7, ground := Ground.data }], guard := none }) (v := .bool (!r)) rfl (by kernel_rfl) (by kernel_rfl) (by kernel_rfl) (fun _ _ _ h => h.elim) (Or.inl ⟨by rfl, ?y8⟩) hS' ?_
  case y8 =>
    intro W hW
    rw [hSd] at hW; obtain ⟨s1, s2⟩ := hW
    go_simp
  simp only [Act.put, List.setIfInBounds_toArray, List.set_cons_zero, List.set_cons_succ]
  refine wpAnyH_done (by kernel_rfl) ?_ _
  exact hQ
end Go.Proofs.Ytijkpkcopjkhkaa.Oct

/- Layer 12 (deps): Place, Hashes, isLong, light. -/
namespace Go.Proofs.Ytijkpkcopjkhkaa.Oct
open Go.RowKit

set_option maxRecDepth 100000 in
set_option maxHeartbeats 1000000 in
theorem place_is (w : World) (a : Option Addr) (n c : Nat) (hs : List Hs) (h : Hs) (hr : HsR w a n hs) (hl : h.length = 32) (hn : n ≤ 100000) :
    Calls Try.prog 22 #[.slice a n c, .agg (U h).toArray] w fun e w' => e = .returned (.int .i64 (placeOf h hs)) ∧ Hid (Below w.heap.size w w') := by
  have HR : Hid (HsR w a n hs) := hr
  have q0 : (n : Int) ≤ 100000 := by omega
  have HL : Hid (h.length = 32) := hl
  have hu := Try.underlying34
  have hi34 := info34 h hl
  have h1 := U_one h
  have hul : (U h).length = 32 := by rw [U_length, hl]
  clear hr hn hl
  go_enter Try.func22, Try.ntmps22
  go_wp2
  obtain ⟨W, hW⟩ : ∃ W, w.alloc (.cells (U h).toArray 34) = W := ⟨_, rfl⟩
  have HB0 : Hid (Below w.heap.size w W) := by show Below _ _ _; rw [← hW]; exact (Below.refl _ w).alloc (Nat.le_refl _) _
  have HK0 : Hid (Blk W w.heap.size 34 (U h)) := by show Blk _ _ _ _; rw [← hW]; simpa using Blk.new w (U h).toArray 34
  rw [hW]
  clear hW
  go_loopw [5] (fun u wr => ∃ i : Nat, u = .int .i64 (i : Int) ∧ Hid (i ≤ n ∧ ∀ j x, j < i → hs[j]? = some x → x ≠ h) ∧ Hid (Below w.heap.size w wr ∧ Blk wr w.heap.size 34 (U h))) (fun u _ => n - (intOf u).toNat)
  case atStart => exact ⟨0, rfl, ⟨Nat.zero_le _, fun j x hj => absurd hj (by omega)⟩, ⟨HB0.out, HK0.out⟩⟩
  case round =>
    obtain ⟨i, rfl, HI, HB⟩ := hrel
    by_cases hi : i < n
    · obtain ⟨x, hx⟩ : ∃ x, hs[i]? = some x := ⟨_, List.getElem?_eq_getElem (by rw [HR.out.1]; exact hi)⟩
      obtain ⟨g, off, rfl, hg, hel⟩ := HR.out.2.2 (by omega)
      have hxl := HR.out.2.1 x (List.mem_of_getElem? hx)
      have i34 := info34 x hxl
      have HX : Hid (i < n ∧ hs[i]? = some x) := ⟨hi, hx⟩
      have hra : wr.rangeAt g (off + i * 32) (U x) := rangeAt_same (hel i x hx) (HB.out.1.block g hg)
      have hrb : wr.rangeAt w.heap.size 0 (U h) := by have := HB.out.2.range 0 32; rw [List.drop_zero, List.take_of_length_le (by omega)] at this; exact this
      have HRA : Hid (wr.rangeAt g (off + i * 32) (U x) ∧ wr.rangeAt w.heap.size 0 (U h)) := ⟨hra, hrb⟩
      have q1 : (i : Int) < (n : Int) := by omega
      have heq := eqH x h hxl HL.out
      have HXL : Hid (x.length = 32) := hxl
      clear hel hx hi hra hrb hxl
      cases hd : decide (x = h) with
      | true =>
        have hd' : x = h := by simpa using hd
        rw [hd] at heq
        have HD : Hid (x = h) := hd'
        clear hd hd'
        go_wp2
        refine place_region HXL.out HL.out (by omega) heq HRA.out ?_
        go_wp2
        go_ret
        refine ⟨?_, HB.out.1.drew⟩
        rw [placeOf_at (by rw [HX.out.2, HD.out]) HI.out.2]
        rfl
      | false =>
        have hd' : x ≠ h := by simpa using hd
        rw [hd] at heq
        have HD : Hid (x ≠ h) := hd'
        clear hd hd'
        go_wp2
        refine place_region HXL.out HL.out (by omega) heq HRA.out ?_
        go_wp2
        go_roundw
        case rel =>
          refine ⟨i + 1, by simp, ⟨HX.out.1, fun j y hj hy => ?_⟩, ⟨HB.out.1.drew, HB.out.2⟩⟩
          by_cases hji : j = i
          · subst hji; rw [HX.out.2] at hy; cases hy; exact HD.out
          · exact HI.out.2 j y (by omega) hy
        case measure => have := HX.out; simp [intOf]; omega
    · have q1 : ¬ (i : Int) < (n : Int) := by omega
      go_wp2
      go_ret
      refine ⟨?_, HB.out.1⟩
      rw [placeOf_no (h := h) ?_]
      · rfl
      intro x hx
      obtain ⟨j, hj, rfl⟩ := List.mem_iff_getElem.1 hx
      exact HI.out.2 j _ (by rw [HR.out.1] at hj; omega) (List.getElem?_eq_getElem hj)

set_option maxRecDepth 100000 in
set_option maxHeartbeats 1000000 in
theorem hashes_is (w : World) (a : Option Addr) (n c : Nat) (hs : List Hs) (a2 : Option Addr) (n2 c2 : Nat) (hs2 : List Hs) (hr : HsR w a n hs) (hr2 : HsR w a2 n2 hs2) (hn : n ≤ 100000) (hn2 : n2 ≤ 100000) :
    Calls Try.prog 13 #[.slice a n c, .slice a2 n2 c2] w fun e w' => e = .returned (.bool (decide (hs = hs2))) ∧ Hid (Below w.heap.size w w') := by
  by_cases hne : n = n2
  · subst hne
    have HR : Hid (HsR w a n hs ∧ HsR w a2 n hs2) := ⟨hr, hr2⟩
    have q0 : (n : Int) ≤ 100000 := by omega
    clear hr hr2 hn hn2
    go_enter Try.func13, Try.ntmps13
    go_wp2
    go_loopw [5] (fun u wr => ∃ i : Nat, u = .int .i64 (i : Int) ∧ Hid (i ≤ n ∧ ∀ j, j < i → hs[j]? = hs2[j]?) ∧ Hid (Below w.heap.size w wr)) (fun u _ => n - (intOf u).toNat)
    case atStart => exact ⟨0, rfl, ⟨Nat.zero_le _, fun j hj => absurd hj (by omega)⟩, Below.refl _ _⟩
    case round =>
      obtain ⟨i, rfl, HI, HB⟩ := hrel
      by_cases hi : i < n
      · obtain ⟨x, hx⟩ : ∃ x, hs[i]? = some x := ⟨_, List.getElem?_eq_getElem (by rw [HR.out.1.1]; exact hi)⟩
        obtain ⟨y, hy⟩ : ∃ y, hs2[i]? = some y := ⟨_, List.getElem?_eq_getElem (by rw [HR.out.2.1]; exact hi)⟩
        obtain ⟨g, off, rfl, hg, hel⟩ := HR.out.1.2.2 (by omega)
        obtain ⟨g2, off2, rfl, hg2, hel2⟩ := HR.out.2.2.2 (by omega)
        have HXL : Hid (x.length = 32 ∧ y.length = 32) := ⟨HR.out.1.2.1 x (List.mem_of_getElem? hx), HR.out.2.2.1 y (List.mem_of_getElem? hy)⟩
        have HX : Hid (i < n ∧ hs[i]? = some x ∧ hs2[i]? = some y) := ⟨hi, hx, hy⟩
        have HRA : Hid (wr.rangeAt g (off + i * 32) (U x) ∧ wr.rangeAt g2 (off2 + i * 32) (U y)) := ⟨rangeAt_same (hel i x hx) (HB.out.block g hg), rangeAt_same (hel2 i y hy) (HB.out.block g2 hg2)⟩
        have q1 : (i : Int) < (n : Int) := by omega
        have heq := eqH x y HXL.out.1 HXL.out.2
        clear hel hel2 hx hy hi
        cases hd : decide (x = y) with
        | true =>
          have HD : Hid (x = y) := by show x = y; simpa using hd
          rw [hd] at heq
          clear hd
          go_wp2
          refine hashes_region HXL.out.1 HXL.out.2 (by omega) heq HRA.out ?_
          go_wp2
          go_roundw
          case rel =>
            refine ⟨i + 1, by simp, ⟨HX.out.1, fun j hj => ?_⟩, HB.out.drew⟩
            by_cases hji : j = i
            · subst hji; rw [HX.out.2.1, HX.out.2.2, HD.out]
            · exact HI.out.2 j (by omega)
          case measure => have := HX.out; simp [intOf]; omega
        | false =>
          have HD : Hid (x ≠ y) := by show x ≠ y; simpa using hd
          rw [hd] at heq
          clear hd
          go_wp2
          refine hashes_region HXL.out.1 HXL.out.2 (by omega) heq HRA.out ?_
          go_wp2
          go_ret
          refine ⟨?_, HB.out.drew⟩
          have : ¬ hs = hs2 := by
            intro e
            have h1 := HX.out.2.1
            rw [e, HX.out.2.2] at h1
            exact HD.out (Option.some.inj h1).symm
          simp [this]
      · have q1 : ¬ (i : Int) < (n : Int) := by omega
        go_wp2
        go_ret
        refine ⟨?_, HB⟩
        have : hs = hs2 := by
          apply List.ext_getElem?
          intro j
          by_cases hj : j < i
          · exact HI.out.2 j hj
          · rw [List.getElem?_eq_none (by rw [HR.out.1.1]; omega), List.getElem?_eq_none (by rw [HR.out.2.1]; omega)]
        simp [this]
  · have q1 : ((n : Int) != (n2 : Int)) = true := by simp; omega
    have hl : ¬ hs = hs2 := fun e => hne (by rw [← hr.1, ← hr2.1, e])
    clear hr hr2
    go_enter Try.func13, Try.ntmps13
    go_wp2
    go_ret
    exact ⟨by simp [hl], Below.refl _ _⟩
end Go.Proofs.Ytijkpkcopjkhkaa.Oct

/- Layer 12 (deps): items; isLong, light. -/
namespace Go.Proofs.Ytijkpkcopjkhkaa.Oct
open Go.RowKit

/-- an item: its name, what it needs, and the slice that says so -/
structure It where
  name : Hs
  deps : List Hs
  a : Option Addr
  n : Nat
  c : Nat
def It.cells (x : It) : List Value := U x.name ++ [.slice x.a x.n x.c]
theorem It.cells_length (x : It) (h : x.name.length = 32) : x.cells.length = 33 := by simp [It.cells, U_length, h]
/-- an item at a place -/
def ItAt (w : World) (b o : Nat) (x : It) : Prop := x.name.length = 32 ∧ w.rangeAt b o x.cells ∧ HsR w x.a x.n x.deps ∧ x.n ≤ x.c ∧ x.n ≤ 140737488355328
/-- items among what came in, or made -/
def Its (w : World) (a : Option Addr) (len : Nat) (l : List It) : Prop :=
  l.length = len ∧ (0 < len → ∃ b off, a = some ⟨b, off, none⟩ ∧ b < w.heap.size ∧ ∀ i x, l[i]? = some x → ItAt w b (off + i * 33) x)
theorem ItAt.below {w w' : World} {b o : Nat} {x : It} (h : ItAt w b o x) (hb : Below w.heap.size w w') (hl : b < w.heap.size) : ItAt w' b o x :=
  ⟨h.1, rangeAt_same h.2.1 (hb.block b hl), h.2.2.1.below hb, h.2.2.2⟩
theorem Its.below {w w' : World} {a : Option Addr} {len : Nat} {l : List It} (h : Its w a len l) (hb : Below w.heap.size w w') : Its w' a len l := by
  refine ⟨h.1, fun hp => ?_⟩
  obtain ⟨b, off, e, h1, h2⟩ := h.2 hp
  exact ⟨b, off, e, Nat.lt_of_lt_of_le h1 hb.size, fun i x hx => (h2 i x hx).below hb h1⟩
theorem ItAt.dep {w : World} {b o : Nat} {x : It} (h : ItAt w b o x) : w.cell? ⟨b, o + 32, none⟩ = some (.slice x.a x.n x.c) := by
  have := h.2.1 32 (.slice x.a x.n x.c) (by simp [It.cells, U_length, h.1])
  exact this
theorem ItAt.nm {w : World} {b o : Nat} {x : It} (h : ItAt w b o x) : w.rangeAt b o (U x.name) := by
  intro j v hj
  refine h.2.1 j v ?_
  have hlt := (List.getElem?_eq_some_iff.1 hj).1
  unfold It.cells
  rw [List.getElem?_append_left hlt]; exact hj
theorem Its.name {w : World} {a : Option Addr} {len : Nat} {l : List It} (h : Its w a len l) : ∀ x ∈ l, x.name.length = 32 ∧ x.deps.length = x.n ∧ ∀ d ∈ x.deps, d.length = 32 := by
  intro x hx
  obtain ⟨i, hi, rfl⟩ := List.mem_iff_getElem.1 hx
  obtain ⟨b, off, _, _, h2⟩ := h.2 (by rw [← h.1]; omega)
  have := h2 i _ (List.getElem?_eq_getElem hi)
  exact ⟨this.1, this.2.2.1.1, this.2.2.1.2.1⟩

theorem isLong_is (w : World) (a : Option Addr) (n c : Nat) : Calls Try.prog 23 #[.slice a n c] w fun e w' => e = .returned (.bool (decide (256 < n))) ∧ w = w' := by
  by_cases h : 256 < n
  · have q : (256 : Int) < (n : Int) := by omega
    go_enter Try.func23, Try.ntmps23
    go_wp2
    go_ret
    exact ⟨by simp [h], rfl⟩
  · have q : ¬ (256 : Int) < (n : Int) := by omega
    go_enter Try.func23, Try.ntmps23
    go_wp2
    go_ret
    exact ⟨by simp, rfl⟩

/-- how many hashes are needed in all -/
def many (l : List It) : Nat := (l.map (·.deps.length)).sum
theorem many_take (l : List It) (i : Nat) (x : It) (h : l[i]? = some x) : many (l.take (i + 1)) = many (l.take i) + x.deps.length := by
  unfold many
  rw [List.take_add_one, h, List.map_append, List.sum_append]; simp
def LightP (w : World) (len : Nat) (l : List It) (e : Ending) (w' : World) : Prop := ∃ b : Bool, e = .returned (.bool b) ∧ Hid (b = true → len ≤ 300 ∧ many l ≤ 400) ∧ w = w'

set_option maxRecDepth 100000 in
set_option maxHeartbeats 1000000 in
theorem light_is (w : World) (a : Option Addr) (len cap : Nat) (l : List It) (h : Its w a len l) (hc : len ≤ cap ∧ cap ≤ maxLen) :
    Calls Try.prog 8 #[.slice a len cap] w (LightP w len l) := by
  have HA : Hid (Its w a len l) := h
  have q5 : (len : Int) ≤ 9223372036854775807 := by have h1 := hc.1; have h2 := hc.2; unfold maxLen at h2; omega
  clear h hc
  go_enter Try.func8, Try.ntmps8
  go_wp2
  go_loop [7, 3] (fun u s => ∃ i : Nat, u = .int .i64 (i : Int) ∧ s = .int .i64 ((many (l.take i) : Nat) : Int) ∧ Hid (i ≤ len ∧ many (l.take i) ≤ 400)) (fun u _ => len - (intOf u).toNat)
  case atStart => exact ⟨0, rfl, by simp [many], ⟨Nat.zero_le _, by simp [many]⟩⟩
  case round =>
    obtain ⟨i, rfl, rfl, HI⟩ := hrel
    by_cases hi : i < len
    · obtain ⟨x, hx⟩ : ∃ x, l[i]? = some x := ⟨_, List.getElem?_eq_getElem (by rw [HA.out.1]; exact hi)⟩
      obtain ⟨b, off, rfl, hb, hel⟩ := HA.out.2 (by omega)
      have c1 := (hel i x hx).dep
      have hn := (hel i x hx).2.2.1.1
      have hxc := (hel i x hx).2.2.2
      have HM : Hid (many (l.take (i + 1)) = many (l.take i) + x.deps.length) := many_take l i x hx
      have HX : Hid (i < len ∧ x.deps.length = x.n) := ⟨hi, hn⟩
      have q1 : (i : Int) < (len : Int) := by omega
      have q2 : ((many (l.take i) : Nat) : Int) ≤ 400 := by have := HI.out; omega
      have q3 : (x.n : Int) ≤ 140737488355328 := by have h2 := hxc.2; omega
      clear hel hx hi hn hxc
      obtain ⟨xn, dp, xa, xnn, xc⟩ := x
      dsimp only at c1 q3 HM HX
      obtain ⟨M, hM⟩ : ∃ M, many (l.take i) = M := ⟨_, rfl⟩
      rw [hM] at HM q2
      rw [hM]
      by_cases hs : M + xnn ≤ 400
      · have q6 : ¬ 400 < (M : Int) + (xnn : Int) := by omega
        have HS : Hid (M + xnn ≤ 400 ∧ many (l.take i) = M) := ⟨hs, hM⟩
        clear hM hs
        go_wp2
        go_round
        case rel =>
          refine ⟨i + 1, by simp, ?_, ⟨HX.out.1, ?_⟩⟩
          · rw [HM.out, HX.out.2]; simp
          · rw [HM.out, HX.out.2]; exact HS.out.1
        case measure => have := HX.out; simp [intOf]; omega
      · have q6 : 400 < (M : Int) + (xnn : Int) := by omega
        clear hM hs
        go_wp2
        go_ret
        exact ⟨false, rfl, (fun h => by cases h), rfl⟩
    · have q1 : ¬ (i : Int) < (len : Int) := by omega
      have HE : Hid (many l ≤ 400) := by
        show _ ≤ _
        have h1 := HI.out.2
        rw [List.take_of_length_le (by rw [HA.out.1]; omega)] at h1
        exact h1
      by_cases h3 : len ≤ 300
      · have q7 : (len : Int) ≤ 300 := by omega
        go_wp2
        go_ret
        exact ⟨true, rfl, fun _ => ⟨h3, HE.out⟩, rfl⟩
      · have q7 : ¬ (len : Int) ≤ 300 := by omega
        go_wp2
        go_ret
        exact ⟨false, rfl, (fun h => by cases h), rfl⟩
end Go.Proofs.Ytijkpkcopjkhkaa.Oct

/- Layer 12 (deps): sets of hashes; laws of the walk. -/
namespace Go.Proofs.Ytijkpkcopjkhkaa.Oct
open Go.RowKit

/-! ### A struct stored into its own new block -/
theorem setCells_heap : ∀ (vs : List Value) (o : Nat) (w : World) (b : Nat), ∃ h, w.setCells b o vs = { w with heap := h } ∧ h.size = w.heap.size
  | [], _, w, _ => ⟨w.heap, rfl, rfl⟩
  | v :: vs, o, w, b => by
    obtain ⟨h, e, hs⟩ := setCells_heap vs (o + 1) (w.setCell ⟨b, o, none⟩ v) b
    obtain ⟨h2, e2, hs2⟩ : ∃ h2, w.setCell ⟨b, o, none⟩ v = { w with heap := h2 } ∧ h2.size = w.heap.size := ⟨_, rfl, by simp⟩
    refine ⟨h, ?_, ?_⟩
    · simp only [World.setCells]
      rw [e, e2]
    · rw [hs, e2]; exact hs2
theorem setCells_fresh (w : World) (Z cs : List Value) (t : TypeId) (hl : cs.length = Z.length) : (w.alloc (.cells Z.toArray t)).setCells w.heap.size 0 cs = w.alloc (.cells cs.toArray t) := by
  have hb : Blk (w.alloc (.cells Z.toArray t)) w.heap.size t Z := by simpa using Blk.new w Z.toArray t
  have h1 := Blk.setCells cs 0 _ Z hb (by omega)
  obtain ⟨h, e, hs⟩ := setCells_heap cs 0 (w.alloc (.cells Z.toArray t)) w.heap.size
  rw [e] at h1 ⊢
  obtain ⟨h2, h3⟩ := h1
  have hc : Z.take 0 ++ cs ++ Z.drop (0 + cs.length) = cs := by
    rw [List.drop_eq_nil_of_le (by omega)]; simp
  rw [hc] at h2
  have hh : h = w.heap.push (.cells cs.toArray t) := by
    apply Array.ext_getElem?
    intro i
    by_cases hi : i = w.heap.size
    · subst hi
      rw [Array.getElem?_push_size]
      exact h2
    · by_cases hlt : i < w.heap.size
      · have := h3.block i (by simp; omega) (by simpa using hi)
        rw [show ({ (w.alloc (.cells Z.toArray t)) with heap := h } : World).heap[i]? = h[i]? from rfl] at this
        rw [this, Below.heap_alloc w _ i hlt, Array.getElem?_push, if_neg hi]
      · rw [Array.getElem?_eq_none (by rw [hs]; simp; omega), Array.getElem?_eq_none (by simp; omega)]
  rw [hh]
  rfl
section
variable {P : Program} {ops : Array Oper} {rest : List Oper} {op : Oper} {a : Act} {w : World} {Q : Exit → Act → World → Prop}
theorem wpList_store_fresh (hgd : op.guard = none) (ty : TypeId) (x y : Operand) (ho : op.op = .store ty x y) (Z cs : List Value) (t : TypeId)
    (hx : a.eval x = .pointer (some ⟨w.heap.size, 0, none⟩)) (hy : a.eval y = .agg cs.toArray) (hl : cs.length = Z.length) (hi : (P.info? ty).map (·.size) = some cs.length) (h1 : ∀ v ∈ cs, v.oneCell' = true)
    (h : wpList P ops Q rest (a.put op.dst undef) (w.alloc (.cells cs.toArray t))) : wpList P ops Q (op :: rest) a (w.alloc (.cells Z.toArray t)) := by
  have hb : Blk (w.alloc (.cells Z.toArray t)) w.heap.size t Z := by simpa using Blk.new w Z.toArray t
  refine wpList_store_mid hgd ty x y ho w.heap.size 0 cs.toArray hx hy (by simpa using hb.there 0 cs.length (by omega)) (by simpa using hi) (all_oneCell_toArray h1) ?_
  rw [show cs.toArray.toList = cs by simp, setCells_fresh w Z cs t hl]
  exact h
end

/-! ### Sets -/
/-- a set of hashes -/
def SM (w : World) (b : Nat) (ks : List Hs) : Prop := ∃ es, HM w b es ∧ es.map (·.k) = ks ∧ ∀ e ∈ es, e.v = .agg #[]
def addK (ks : List Hs) (h : Hs) : List Hs := if h ∈ ks then ks else ks ++ [h]
theorem mem_addK {ks : List Hs} {h x : Hs} : x ∈ addK ks h ↔ x ∈ ks ∨ x = h := by
  unfold addK
  split
  · rename_i hm
    constructor
    · exact .inl
    · rintro (h1 | rfl) <;> assumption
  · simp
theorem addK_nodup {ks : List Hs} {h : Hs} (hn : ks.Nodup) : (addK ks h).Nodup := by
  unfold addK
  split
  · exact hn
  · rename_i hm
    rw [List.nodup_append]
    exact ⟨hn, by simp, fun a ha b hb => by simp at hb; subst hb; rintro rfl; exact hm ha⟩
section
variable {w w' : World} {b : Nat} {ks : List Hs} {h : Hs}
theorem SM.lt (hm : SM w b ks) : b < w.heap.size := by obtain ⟨es, h1, _⟩ := hm; exact h1.lt
theorem SM.same (hm : SM w b ks) (hs : w'.heap[b]? = w.heap[b]?) : SM w' b ks := by obtain ⟨es, h1, h2⟩ := hm; exact ⟨es, h1.same hs, h2⟩
theorem SM.kept {row : Option Nat} (hm : SM w b ks) (hg : w.grownBy w' row) (hne : some b ≠ row) : SM w' b ks := hm.same (hg.block b hm.lt hne)
theorem SM.below {B : Nat} (hm : SM w b ks) (hb : Below B w w') (hB : b < B) : SM w' b ks := hm.same (hb.block b hB)
theorem SM.alloc (hm : SM w b ks) (o : Obj) : SM (w.alloc o) b ks := hm.same (Below.heap_alloc w o b hm.lt)
theorem SM.made (w : World) : SM (w.alloc (.map #[] 0)) w.heap.size [] := ⟨[], HM.made w, rfl, by simp⟩
theorem SM.nodup (hm : SM w b ks) : ks.Nodup ∧ ∀ k ∈ ks, k.length = 32 := by
  obtain ⟨es, ⟨clock, _, _, _, h4, h5⟩, rfl, _⟩ := hm
  refine ⟨h4, fun k hk => ?_⟩
  obtain ⟨e, he, rfl⟩ := List.mem_map.1 hk
  exact h5 e he
theorem isSome_hlook {es : List Ent} : (hlook h es).isSome = decide (h ∈ es.map (·.k)) := by
  cases hl : hlook h es with
  | none =>
    have : h ∉ es.map (·.k) := by
      intro hc
      obtain ⟨e, he, hk⟩ := List.mem_map.1 hc
      exact hlook_none hl e he hk
    simp [this]
  | some e =>
    have := hlook_some hl
    have h2 : h ∈ es.map (·.k) := List.mem_map.2 ⟨e, this.1, this.2⟩
    simp [h2]
theorem SM.put (hm : SM w b ks) (hl : h.length = 32) : ∃ w', (Instr.mapUpdate 43 (.map (some b)) (.agg (U h).toArray) (.agg #[])).run Try.prog w = .ok () w' ∧ SM w' b (addK ks h) ∧ w.grownBy w' (some b) ∧ w'.heap.size = w.heap.size := by
  obtain ⟨es, h1, rfl, h3⟩ := hm
  obtain ⟨w', nb, r1, r2, r3, r4⟩ := h1.put (t := 43) (E := 52) Try.underlying43 hl (.agg #[])
  refine ⟨w', r1, ⟨_, r2, ?_, ?_⟩, r3, r4⟩
  · unfold hputE addK
    rw [isSome_hlook]
    by_cases hc : h ∈ es.map (·.k)
    · simp only [hc, decide_true, if_true]; exact map_keys es h _
    · simp only [hc, decide_false, Bool.false_eq_true, if_false]; simp
  · intro e he
    unfold hputE at he
    split at he
    · obtain ⟨x, hx, rfl⟩ := List.mem_map.1 he
      split
      · rfl
      · exact h3 x hx
    · rcases List.mem_append.1 he with he | he
      · exact h3 e he
      · simp at he; subst he; rfl
theorem zero52 (W : World) : (zeroValue 52).run Try.prog W = .ok (.agg #[]) W := by kernel_rfl
theorem SM.look (hm : SM w b ks) (hl : h.length = 32) : (Instr.lookup 43 (.map (some b)) (.agg (U h).toArray) true).run Try.prog w = .ok (.tuple #[.agg #[], .bool (decide (h ∈ ks))]) w := by
  obtain ⟨es, h1, rfl, h3⟩ := hm
  have := h1.look (t := 43) (E := 52) Try.underlying43 hl true (zero52 w)
  show (Instr.lookup 43 (.map (some b)) (hv h) true).run Try.prog w = _
  rw [this, ← isSome_hlook]
  unfold lkv
  cases hk : hlook h es with
  | none => simp
  | some e => simp [h3 e (hlook_some hk).1]
theorem SM.len (hm : SM w b ks) (ty : TypeId) : (Builtin.len_ #[43] ty #[.map (some b)]).run Try.prog w = .ok (.int .i64 ks.length) w := by
  obtain ⟨es, h1, rfl, h3⟩ := hm
  rw [h1.len (t := 43) (E := 52) Try.underlying43 ty]; simp
end
section
variable {ops : Array Oper} {rest : List Oper} {o : Oper} {a : Act} {w : World} {Q : Exit → Act → World → Prop}
theorem wpList_sput (hg : o.guard = none) (m x v : Operand) (hop : o.op = Op.mapUpdate 43 m x v) (b : Nat) (ks : List Hs) (h : Hs) (hm : a.eval m = .map (some b)) (hx : a.eval x = .agg (U h).toArray) (hvv : a.eval v = .agg #[])
    (hs : SM w b ks) (hl : h.length = 32) (hK : ∀ w', SM w' b (addK ks h) → w.grownBy w' (some b) → w'.heap.size = w.heap.size → wpList Try.prog ops Q rest (a.put o.dst undef) w') : wpList Try.prog ops Q (o :: rest) a w := by
  refine wpList_plain hg fun K' hK' => ?_
  obtain ⟨w', hrun, r1, r2, r3⟩ := hs.put hl
  unfold Oper.wp
  simp [execOp, hop, hm, hx, hvv, hrun, Result.andThen]
  exact hK' _ _ (hK w' r1 r2 r3)
end
end Go.Proofs.Ytijkpkcopjkhkaa.Oct

/- Layer 12 (deps): the names of items. -/
namespace Go.Proofs.Ytijkpkcopjkhkaa.Oct
open Go.RowKit

theorem below_grownBy {B m : Nat} {w a b : World} (h : Below B w a) (hg : a.grownBy b (some m)) (hm : B ≤ m) (hB : B ≤ w.heap.size) : Below B w b :=
  ⟨hg.os.trans h.os, hg.tape.trans h.tape, hg.output.trans h.output, Nat.le_trans h.size hg.size, fun k hk => (hg.block k (Nat.lt_of_lt_of_le hk (Nat.le_trans hB h.size)) (by simp; omega)).trans (h.block k hk)⟩
theorem run_make43 (W : World) : (Instr.makeMap 43 none).run Try.prog W = .ok (.map (some W.heap.size)) (W.alloc (.map #[] 0)) := by
  simp [Instr.makeMap]

def namesK (l : List It) : List Hs := l.foldl (fun ks x => addK ks x.name) []
theorem namesK_take (l : List It) (i : Nat) (x : It) (h : l[i]? = some x) : namesK (l.take (i + 1)) = addK (namesK (l.take i)) x.name := by
  unfold namesK
  rw [List.take_add_one, h, List.foldl_append]; rfl
theorem info36 (x : It) (h : x.name.length = 32) : (Try.prog.info? 36).map (·.size) = some x.cells.length := by rw [x.cells_length h]; kernel_rfl
theorem cells_one (x : It) : ∀ v ∈ x.cells, v.oneCell' = true := by
  intro v hv
  rcases List.mem_append.1 hv with h | h
  · exact U_one _ v h
  · simp at h; subst h; rfl
theorem zero36 : ∃ Z : List Value, Z.length = 33 ∧ ∀ W, (zeroValue 36).run Try.prog W = .ok (.agg Z.toArray) W := ⟨(List.replicate 32 (.int .u8 0)) ++ [.slice none 0 0], by simp, fun W => by kernel_rfl⟩
theorem cells_name (w : World) (x : It) : (w.alloc (.cells x.cells.toArray 36)).rangeAt w.heap.size 0 (U x.name) := by
  intro j v hj
  have hlt := (List.getElem?_eq_some_iff.1 hj).1
  have := (Blk.new w x.cells.toArray 36).cell (i := 0 + j) (v := v) (by
    simp only [It.cells, Nat.zero_add]
    rw [List.getElem?_append_left hlt]; exact hj)
  exact this
theorem cells_dep (w : World) (x : It) (h : x.name.length = 32) : (w.alloc (.cells x.cells.toArray 36)).cell? ⟨w.heap.size, 32, none⟩ = some (.slice x.a x.n x.c) :=
  (Blk.new w x.cells.toArray 36).cell (i := 32) (by simp [It.cells, U_length, h])
def NamesP (w : World) (ks : List Hs) (e : Ending) (w' : World) : Prop := ∃ b, e = .returned (.map (some b)) ∧ Hid (SM w' b ks ∧ w.heap.size ≤ b) ∧ Hid (Below w.heap.size w w')

set_option maxRecDepth 100000 in
set_option maxHeartbeats 1000000 in
theorem namesOf_is (w : World) (a : Option Addr) (len cap : Nat) (l : List It) (h : Its w a len l) (hn : len ≤ 100000) :
    Calls Try.prog 24 #[.slice a len cap] w (NamesP w (namesK l)) := by
  have HA : Hid (Its w a len l) := h
  have q5 : (len : Int) ≤ 100000 := by omega
  obtain ⟨Z, hZl, hZ⟩ := zero36
  have HZ : Hid (Z.length = 33) := hZl
  clear h hn hZl
  have hmk := run_make43
  go_enter Try.func24, Try.ntmps24
  go_wp2
  clear hmk
  obtain ⟨W, hW⟩ : ∃ W, w.alloc (.map #[] 0) = W := ⟨_, rfl⟩
  have HB0 : Hid (Below w.heap.size w W) := by show Below _ _ _; rw [← hW]; exact (Below.refl _ w).alloc (Nat.le_refl _) _
  have HK0 : Hid (SM W w.heap.size []) := by show SM _ _ _; rw [← hW]; exact SM.made w
  rw [hW]
  clear hW
  go_loopw [9] (fun u wr => ∃ i : Nat, u = .int .i64 (i : Int) ∧ Hid (i ≤ len) ∧ Hid (Below w.heap.size w wr ∧ SM wr w.heap.size (namesK (l.take i)))) (fun u _ => len - (intOf u).toNat)
  case atStart => exact ⟨0, rfl, Nat.zero_le _, ⟨HB0.out, HK0.out⟩⟩
  case round =>
    obtain ⟨i, rfl, HI, HB⟩ := hrel
    by_cases hi : i < len
    · obtain ⟨x, hx⟩ : ∃ x, l[i]? = some x := ⟨_, List.getElem?_eq_getElem (by rw [HA.out.1]; exact hi)⟩
      obtain ⟨b, off, rfl, hb, hel⟩ := HA.out.2 (by omega)
      have HX : Hid (i < len ∧ l[i]? = some x ∧ x.name.length = 32) := ⟨hi, hx, (hel i x hx).1⟩
      have HRA : Hid (wr.rangeAt b (off + i * 33) x.cells) := rangeAt_same (hel i x hx).2.1 (HB.out.1.block b hb)
      have q1 : (i : Int) < (len : Int) := by omega
      clear hel hx hi
      go_wp2_with (first
        | (with_reducible change wpList _ _ _ ({ dst := some 12, op := _, type := _, pos := _, after := _, guard := _ } :: _) _ _
           refine wpList_load_mid rfl 36 (.tmp 11) rfl b (off + i * 33) rfl x.cells _ HRA.out Try.underlying36 rfl (info36 x HX.out.2.2) ?_)
        | (with_reducible change wpList _ _ _ ({ dst := none, op := Op.store 36 _ _, type := _, pos := _, after := _, guard := _ } :: _) _ _
           refine wpList_store_fresh rfl 36 (.tmp 5) (.tmp 12) rfl Z x.cells 36 rfl rfl (by rw [x.cells_length HX.out.2.2, HZ.out]) (info36 x HX.out.2.2) (cells_one x) ?_)
        | (with_reducible change wpList _ _ _ ({ dst := some 15, op := _, type := _, pos := _, after := _, guard := _ } :: _) _ _
           refine wpList_load_mid rfl 34 (.tmp 14) rfl wr.heap.size 0 rfl (U x.name) _ (cells_name wr x) Try.underlying34 rfl (info34 x.name HX.out.2.2) ?_)
        | (with_reducible change wpList _ _ _ ({ dst := none, op := Op.mapUpdate 43 _ _ _, type := _, pos := _, after := _, guard := _ } :: _) _ _
           refine wpList_sput rfl (.tmp 13) (.tmp 15) (.tmp 16) rfl w.heap.size (namesK (l.take i)) x.name rfl rfl rfl (HB.out.2.alloc _) HX.out.2.2 ?_
           intro w6 hS6 hG6 hZ6))
      refine ⟨⟨i + 1, by simp, HX.out.1, below_grownBy (HB.out.1.alloc HB.out.1.size _) hG6 (Nat.le_refl _) (Nat.le_refl _), by rw [namesK_take l i x HX.out.2.1]; exact hS6⟩, ?_⟩
      have := HX.out.1; simp [intOf]; omega
    · have q1 : ¬ (i : Int) < (len : Int) := by omega
      go_wp2
      go_ret
      refine ⟨w.heap.size, rfl, ⟨?_, Nat.le_refl _⟩, HB.out.1⟩
      have := HB.out.2
      rw [List.take_of_length_le (by rw [HA.out.1]; omega)] at this
      exact this
end Go.Proofs.Ytijkpkcopjkhkaa.Oct

/- Layer 12 (deps): append to a row of hashes that is the call's own. -/
namespace Go.Proofs.Ytijkpkcopjkhkaa.Oct
open Go.RowKit

def UU (hs : List Hs) : List Value := hs.flatMap U
theorem UU_length {hs : List Hs} (h : ∀ x ∈ hs, x.length = 32) : (UU hs).length = hs.length * 32 := by
  induction hs with
  | nil => rfl
  | cons x hs ih =>
    unfold UU at *
    rw [List.flatMap_cons, List.length_append, ih (fun y hy => h y (by simp [hy])), U_length, h x (by simp)]
    simp; omega
theorem UU_append (a b : List Hs) : UU (a ++ b) = UU a ++ UU b := by simp [UU]
theorem UU_one (hs : List Hs) : ∀ v ∈ UU hs, v.oneCell' = true := by
  intro v hv
  obtain ⟨x, _, hx⟩ := List.mem_flatMap.1 hv
  exact U_one x v hx
theorem rangeAt_app {w : World} {g o : Nat} {a b : List Value} (h1 : w.rangeAt g o a) (h2 : w.rangeAt g (o + a.length) b) : w.rangeAt g o (a ++ b) := by
  intro j v hj
  by_cases hlt : j < a.length
  · rw [List.getElem?_append_left hlt] at hj; exact h1 j v hj
  · rw [List.getElem?_append_right (by omega)] at hj
    have := h2 (j - a.length) v hj
    rw [show o + a.length + (j - a.length) = o + j by omega] at this
    exact this
theorem rangeAt_left {w : World} {g o : Nat} {a b : List Value} (h : w.rangeAt g o (a ++ b)) : w.rangeAt g o a := by
  intro j v hj
  exact h j v (by rw [List.getElem?_append_left (List.getElem?_eq_some_iff.1 hj).1]; exact hj)
theorem rangeAt_right {w : World} {g o : Nat} {a b : List Value} (h : w.rangeAt g o (a ++ b)) : w.rangeAt g (o + a.length) b := by
  intro j v hj
  have := h (a.length + j) v (by rw [List.getElem?_append_right (by omega), show a.length + j - a.length = j by omega]; exact hj)
  rw [show o + (a.length + j) = o + a.length + j by omega] at this
  exact this
theorem rangeAt_UU {w : World} {g : Nat} : ∀ (hs : List Hs) (off : Nat), (∀ x ∈ hs, x.length = 32) → ((∀ i h, hs[i]? = some h → w.rangeAt g (off + i * 32) (U h)) ↔ w.rangeAt g off (UU hs))
  | [], off, _ => ⟨fun _ j v hj => by simp [UU] at hj, fun _ i h hi => by simp at hi⟩
  | x :: hs, off, hl => by
    have hx : x.length = 32 := hl x (by simp)
    have ih := rangeAt_UU (w := w) (g := g) hs (off + 32) (fun y hy => hl y (by simp [hy]))
    have e : UU (x :: hs) = U x ++ UU hs := by simp [UU]
    rw [e]
    constructor
    · intro h
      refine rangeAt_app (by simpa using h 0 x rfl) ?_
      rw [U_length, hx]
      refine ih.1 fun i y hy => ?_
      have := h (i + 1) y (by simpa using hy)
      rw [show off + (i + 1) * 32 = off + 32 + i * 32 by omega] at this
      exact this
    · intro h i y hi
      cases i with
      | zero => simp at hi; subst hi; simpa using rangeAt_left h
      | succ i =>
        have h2 := rangeAt_right h
        rw [U_length, hx] at h2
        have := ih.2 h2 i y (by simpa using hi)
        rw [show off + (i + 1) * 32 = off + 32 + i * 32 by omega]
        exact this
/-- a row of the call's own can be read -/
theorem own_read {w : World} {B : Nat} {v : Value} {n : Nat} {hs : List Hs} (h : w.ownsRow B 34 32 v n (UU hs)) (hl : ∀ x ∈ hs, x.length = 32) : ∃ a c, v = .slice a n c ∧ HsR w a n hs ∧ n ≤ c ∧ (a = none ∨ ∃ g, a = some ⟨g, 0, none⟩ ∧ B ≤ g) := by
  have hlen : hs.length = n := by
    have := h.1
    rw [UU_length hl] at this
    omega
  rcases h.2 with ⟨rfl, rfl⟩ | ⟨g, cap, cur, rfl, h1, h2, h3, h4, h5, h6⟩
  · exact ⟨none, 0, rfl, ⟨hlen, hl, fun h => absurd h (by omega)⟩, Nat.le_refl _, .inl rfl⟩
  · refine ⟨some ⟨g, 0, none⟩, cap, rfl, ⟨hlen, hl, fun _ => ⟨g, 0, rfl, (Array.getElem?_eq_some_iff.1 h2).1, ?_⟩⟩, h3, .inr ⟨g, rfl, h1⟩⟩
    refine (rangeAt_UU hs 0 hl).2 ?_
    intro j u hj
    have := h.cells (g := g) rfl j u hj
    rw [Addr.add_lit] at this
    exact this
theorem info34' : ∃ i : TypeInfo, Try.prog.info? 34 = some i ∧ i.size = 32 ∧ i.bytes = 32 ∧ ∃ z, i.zero = some z ∧ z.cells.size = 32 := by
  obtain ⟨i, hi, he⟩ := Option.map_eq_some_iff.1 (show (Try.prog.info? 34).map (fun i => (i.size, i.bytes, i.zero.map (·.cells.size))) = some (32, 32, some 32) by kernel_rfl)
  simp only [Prod.mk.injEq] at he
  obtain ⟨z, hz, hz2⟩ := Option.map_eq_some_iff.1 he.2.2
  exact ⟨i, hi, he.1, he.2.1, z, hz, hz2⟩
theorem run_app (w : World) (B : Nat) (ty : TypeId) (v : Value) (n : Nat) (hs : List Hs) (o : Option Addr) (m c : Nat) (xs : List Hs) (hown : w.ownsRow B 34 32 v n (UU hs)) (hx : HsR w o m xs) (hn : n + m ≤ 1000000) (hB : B ≤ w.heap.size) :
    ∃ v' w', (Builtin.append_ #[26, 26] ty #[v, .slice o m c]).run Try.prog w = .ok v' w' ∧ w'.ownsRow B 34 32 v' (n + m) (UU (hs ++ xs)) ∧ w.grownBy w' v.ownBlock ∧ (v'.ownBlock = v.ownBlock ∨ v'.ownBlock = some w.heap.size) := by
  obtain ⟨i, hi, hs1, hby, z, hz, hzs⟩ := info34'
  have h63 : n + m ≤ maxLen := by unfold maxLen; omega
  have hbytes : (n + m) * 32 ≤ 140737488355328 := by omega
  by_cases hm : 0 < m
  · obtain ⟨g, off, rfl, hg, hel⟩ := hx.2.2 hm
    have hr := (rangeAt_UU xs off hx.2.1).1 hel
    have hnews : ∀ j u, (UU xs)[j]? = some u → w.cell? ((⟨g, off, none⟩ : Addr).add j) = some u := fun j u hj => by rw [Addr.add_lit]; exact hr j u hj
    have hl : (UU xs).length = m * 32 := by rw [UU_length hx.2.1, hx.1]
    obtain ⟨v', w', hrun, ho, hg2, _⟩ := run_append_own w B 26 ty 34 i z 32 32 Try.underlying26 hi hz hs1 hby hzs (by omega) v n (UU hs) hown ⟨g, off, none⟩ m c (UU xs) hl hnews (UU_one xs) h63 hbytes hB
    refine ⟨v', w', hrun, by rw [UU_append]; exact ho, hg2, ?_⟩
    rcases hown.2 with ⟨rfl, rfl⟩ | ⟨g', cap, cur, rfl, hbg, hg', hnc, hcm, hcs, htake⟩
    · have hr2 := run_append_nil (P := Try.prog) w 26 ty 34 i z Try.underlying26 hi hz ⟨g, off, none⟩ m c (UU xs) (by rw [hs1]; exact hl) hnews (by omega) (by omega) (by rw [hby]; omega)
      rw [hr2] at hrun
      injection hrun with e1 e2
      exact .inr (by rw [← e1]; rfl)
    · by_cases hroom : n + m ≤ cap
      · have hr2 := run_append_room (P := Try.prog) w 26 ty 34 i Try.underlying26 hi g' n cap cur hg' ⟨g, off, none⟩ m c (UU xs) (by rw [hs1]; exact hl) hnews (UU_one xs) hroom (by rw [hs1, hl, hcs, ← Nat.add_mul]; exact Nat.mul_le_mul_right _ hroom)
        rw [hr2] at hrun
        injection hrun with e1 e2
        exact .inl (by rw [← e1]; rfl)
      · have holds := hown.cells (g := g') rfl
        have hr2 := run_append_grow (P := Try.prog) w 26 ty 34 i z Try.underlying26 hi hz ⟨g', 0, none⟩ n cap (UU hs) (by rw [hs1]; exact hown.1) holds ⟨g, off, none⟩ m c (UU xs) (by rw [hs1]; exact hl) hnews (by omega) (by omega) (growslice_fits (by omega) (by rw [hby]; exact hbytes))
        rw [hr2] at hrun
        injection hrun with e1 e2
        exact .inr (by rw [← e1]; rfl)
  · obtain rfl : m = 0 := by omega
    have hxs : xs = [] := List.eq_nil_of_length_eq_zero hx.1
    subst hxs
    obtain ⟨a, cap, rfl, _, hc, _⟩ : ∃ a cap, v = .slice a n cap ∧ True ∧ n ≤ cap ∧ True := by
      rcases hown.2 with ⟨rfl, rfl⟩ | ⟨g, cap, cur, rfl, h1, h2, h3, h4⟩
      · exact ⟨none, 0, rfl, trivial, Nat.le_refl _, trivial⟩
      · exact ⟨_, cap, rfl, trivial, h3, trivial⟩
    refine ⟨_, w, run_append_zero w 26 ty 34 i Try.underlying26 hi a o n cap c hc, by simpa using hown, World.grownBy.refl _ _, .inl rfl⟩
end Go.Proofs.Ytijkpkcopjkhkaa.Oct

/- Layer 12 (deps): steps from hashes to hashes: a map of lists. -/
namespace Go.Proofs.Ytijkpkcopjkhkaa.Oct
open Go.RowKit

/-- a map of lists of hashes, each in a row of its own, from B on -/
structure StE (w : World) (b B : Nat) (es : List Ent) (ms : List (Hs × List Hs)) : Prop where
  hm : HM w b es
  keys : es.map (·.k) = ms.map (·.1)
  rows : ∀ (i : Nat) (e : Ent) (m : Hs × List Hs), es[i]? = some e → ms[i]? = some m → w.ownsRow B 34 32 e.v m.2.length (UU m.2)
  apart : ∀ (i j : Nat) (e e' : Ent), i ≠ j → es[i]? = some e → es[j]? = some e' → e.v.ownBlock = none ∨ e.v.ownBlock ≠ e'.v.ownBlock
  lens : ∀ m ∈ ms, ∀ h ∈ m.2, h.length = 32
def StM (w : World) (b B : Nat) (ms : List (Hs × List Hs)) : Prop := ∃ es, StE w b B es ms
/-- a list put behind what stands at a key -/
def appS (ms : List (Hs × List Hs)) (h : Hs) (xs : List Hs) : List (Hs × List Hs) := if h ∈ ms.map (·.1) then ms.map (fun m => if m.1 = h then (m.1, m.2 ++ xs) else m) else ms ++ [(h, xs)]
/-- what stands at a key -/
def getS (ms : List (Hs × List Hs)) (h : Hs) : List Hs := ((ms.find? (·.1 == h)).map (·.2)).getD []

theorem own_mono {w : World} {B B' : Nat} {e : TypeId} {sz : Nat} {v : Value} {n : Nat} {xs : List Value} (h : w.ownsRow B e sz v n xs) (hB : B' ≤ B) : w.ownsRow B' e sz v n xs := by
  rcases h with ⟨h1, h2 | ⟨g, cap, cur, h3, h4, h5⟩⟩
  · exact ⟨h1, .inl h2⟩
  · exact ⟨h1, .inr ⟨g, cap, cur, h3, by omega, h5⟩⟩
section
variable {w w' : World} {b B : Nat} {es : List Ent} {ms : List (Hs × List Hs)} {h : Hs}
theorem StE.len (hs : StE w b B es ms) : es.length = ms.length := by
  have := congrArg List.length hs.keys
  simpa using this
theorem ownBlock_ne_map {w : World} {b B : Nat} {es : List Ent} {v : Value} {n : Nat} {xs : List Value} (hm : HM w b es) (ho : w.ownsRow B 34 32 v n xs) : v.ownBlock ≠ some b := by
  rcases ho.2 with ⟨rfl, _⟩ | ⟨g, cap, cur, rfl, _, hg, _⟩
  · simp [Value.ownBlock]
  · obtain ⟨clock, hb, _⟩ := hm
    intro hc
    have : g = b := by simpa [Value.ownBlock] using hc
    subst this
    rw [hb] at hg
    cases hg
theorem StE.kept {row : Option Nat} (hs : StE w b B es ms) (hg : w.grownBy w' row) (hne : some b ≠ row) (hr : ∀ e ∈ es, e.v.ownBlock = none ∨ e.v.ownBlock ≠ row) : StE w' b B es ms :=
  ⟨hs.hm.kept hg hne, hs.keys, fun i e m he hm => (hs.rows i e m he hm).kept hg (hr e (List.mem_of_getElem? he)), hs.apart, hs.lens⟩
theorem StE.below (hs : StE w b B es ms) (hb : Below w.heap.size w w') : StE w' b B es ms := by
  refine hs.kept (row := none) ⟨hb.os, hb.tape, hb.output, hb.size, fun k hk _ => hb.block k hk⟩ (by simp) (fun e he => ?_)
  cases e.v.ownBlock with
  | none => exact .inl rfl
  | some g => exact .inr (by simp)
theorem StM.below (hs : StM w b B ms) (hb : Below w.heap.size w w') : StM w' b B ms := by
  obtain ⟨es, h1⟩ := hs
  exact ⟨es, h1.below hb⟩
theorem StM.lt (hs : StM w b B ms) : b < w.heap.size := by
  obtain ⟨es, h1⟩ := hs
  exact h1.hm.lt
theorem StM.made (w : World) (B : Nat) : StM (w.alloc (.map #[] 0)) w.heap.size B [] := ⟨[], HM.made w, rfl, by simp, by simp, by simp⟩
theorem zero26 (W : World) : (zeroValue 26).run Try.prog W = .ok (.slice none 0 0) W := by kernel_rfl
theorem getS_at {i : Nat} {m : Hs × List Hs} (hnd : (ms.map (·.1)).Nodup) (hi : ms[i]? = some m) : getS ms m.1 = m.2 := by
  unfold getS
  have : ms.find? (·.1 == m.1) = some m := by
    obtain ⟨hlt, he⟩ := List.getElem?_eq_some_iff.1 hi
    rw [List.find?_eq_some_iff_getElem]
    refine ⟨by simp, i, hlt, he, fun j hj => ?_⟩
    have hp := List.pairwise_iff_getElem.1 (List.nodup_iff_pairwise_ne.1 hnd) j i (by simp; omega) (by simpa using hlt) hj
    simp only [List.getElem_map, he] at hp
    simpa using hp
  rw [this]; rfl
theorem getS_no (hn : h ∉ ms.map (·.1)) : getS ms h = [] := by
  unfold getS
  have : ms.find? (·.1 == h) = none := by
    refine List.find?_eq_none.2 fun m hm => ?_
    have : m.1 ≠ h := fun e => hn (List.mem_map.2 ⟨m, hm, e⟩)
    simpa using this
  rw [this]; rfl
theorem StE.nodup (hs : StE w b B es ms) : (ms.map (·.1)).Nodup := by
  obtain ⟨clock, _, _, _, h4, _⟩ := hs.hm
  rw [← hs.keys]; exact h4
theorem StE.partner (hs : StE w b B es ms) {i : Nat} {e : Ent} (he : es[i]? = some e) : ∃ m, ms[i]? = some m ∧ m.1 = e.k := by
  have hlt : i < ms.length := by rw [← hs.len]; exact (List.getElem?_eq_some_iff.1 he).1
  obtain ⟨m, hm⟩ : ∃ m, ms[i]? = some m := ⟨_, List.getElem?_eq_getElem hlt⟩
  refine ⟨m, hm, ?_⟩
  have := congrArg (·[i]?) hs.keys
  simp only [List.getElem?_map, he, hm, Option.map_some] at this
  exact (Option.some.inj this).symm
/-- what stands at a key, read -/
theorem StM.look (hs : StM w b B ms) (hl : h.length = 32) : ∃ a n c, (Instr.lookup 48 (.map (some b)) (.agg (U h).toArray) false).run Try.prog w = .ok (.slice a n c) w ∧ HsR w a n (getS ms h) := by
  obtain ⟨es, hs⟩ := hs
  have hr := hs.hm.look (t := 48) (E := 26) Try.underlying48 hl false (zero26 w)
  cases hk : hlook h es with
  | none =>
    have hn : h ∉ ms.map (·.1) := by
      rw [← hs.keys]
      intro hc
      obtain ⟨e, he, hke⟩ := List.mem_map.1 hc
      exact hlook_none hk e he hke
    refine ⟨none, 0, 0, ?_, by rw [getS_no hn]; exact HsR.nil _ _⟩
    rw [hk] at hr
    exact hr
  | some e =>
    obtain ⟨h1, h2⟩ := hlook_some hk
    obtain ⟨i, hi, hei⟩ := List.mem_iff_getElem.1 h1
    have hee : es[i]? = some e := by rw [List.getElem?_eq_getElem hi, hei]
    obtain ⟨m, hme, hkm⟩ := hs.partner hee
    have hrow := hs.rows i e m hee hme
    obtain ⟨a, c, e1, e2, _⟩ := own_read hrow (hs.lens _ (List.mem_of_getElem? hme))
    refine ⟨a, m.2.length, c, ?_, ?_⟩
    · rw [hk] at hr
      rw [← e1]
      exact hr
    · have := getS_at hs.nodup hme
      rw [hkm, h2] at this
      rw [this]; exact e2
end

/-- the first step of 'm[h] = append(m[h], ..)': the entry -/
theorem StE.entry {w : World} {b B : Nat} {es : List Ent} {ms : List (Hs × List Hs)} {h : Hs} (hs : StE w b B es ms) (hl : h.length = 32) :
    ∃ (w1 : World) (i : Nat) (e : Ent) (es1 : List Ent) (xs : List Hs) (ms1 : List (Hs × List Hs)), (Instr.mapEntry 48 (.map (some b)) (.agg (U h).toArray)).run Try.prog w = .ok (.tuple #[e.v, .int .i64 (e.b : Int)]) w1 ∧ StE w1 b B es1 ms1 ∧ es1[i]? = some e ∧ ms1[i]? = some (h, xs) ∧ e.k = h ∧ (∀ ys, appS ms h ys = ms1.map (fun m => if m.1 = h then (m.1, m.2 ++ ys) else m)) ∧ w.grownBy w1 (some b) ∧ w1.heap.size = w.heap.size := by
  obtain ⟨w1, e, nb, hrun, hm, he, hke, hor, hg, hsz⟩ := hs.hm.entry (t := 48) (E := 26) Try.underlying48 hl (z := .slice none 0 0) zero26
  have hrows : ∀ x ∈ es, x.v.ownBlock = none ∨ x.v.ownBlock ≠ some b := by
    intro x hx
    obtain ⟨j, hj, hxj⟩ := List.mem_iff_getElem.1 hx
    have hxe : es[j]? = some x := by rw [List.getElem?_eq_getElem hj, hxj]
    obtain ⟨m, hm2, _⟩ := hs.partner hxe
    exact .inr (ownBlock_ne_map hs.hm (hs.rows j x m hxe hm2))
  have krows : ∀ (j : Nat) (x : Ent) (m : Hs × List Hs), es[j]? = some x → ms[j]? = some m → w1.ownsRow B 34 32 x.v m.2.length (UU m.2) := fun j x m hx hmm =>
    (hs.rows j x m hx hmm).kept hg (hrows x (List.mem_of_getElem? hx))
  cases hk : hlook h es with
  | some e0 =>
    rw [hk] at hm he hor
    simp only [Option.isSome_some, if_true] at hm he
    obtain ⟨i, hi, hei⟩ := List.mem_iff_getElem.1 he
    have hee : es[i]? = some e := by rw [List.getElem?_eq_getElem hi, hei]
    obtain ⟨m, hme, hkm⟩ := hs.partner hee
    refine ⟨w1, i, e, es, m.2, ms, hrun, ⟨hm, hs.keys, krows, hs.apart, hs.lens⟩, hee, by rw [hme, ← hke, ← hkm], hke, fun ys => ?_, hg, hsz⟩
    unfold appS
    rw [if_pos (by rw [← hs.keys, ← hke]; exact List.mem_map.2 ⟨e, he, rfl⟩)]
  | none =>
    rw [hk] at hm he hor
    simp only [Option.isSome_none, Bool.false_eq_true, if_false] at hm he
    have hev : e.v = .slice none 0 0 := by
      rcases hor with h1 | ⟨_, h1⟩
      · cases h1
      · exact h1
    have hno : h ∉ ms.map (·.1) := by
      rw [← hs.keys]
      intro hc
      obtain ⟨x, hx, hkx⟩ := List.mem_map.1 hc
      exact hlook_none hk x hx hkx
    have hel : e = ⟨h, .slice none 0 0, nb⟩ := by
      rcases List.mem_append.1 he with hx | hx
      · exact absurd hke (hlook_none hk e hx)
      · simpa using hx
    refine ⟨w1, es.length, e, es ++ [⟨h, .slice none 0 0, nb⟩], [], ms ++ [(h, [])], hrun, ⟨hm, by simp [hs.keys], ?_, ?_, ?_⟩, by simp [hel], by rw [hs.len]; simp, hke, fun ys => ?_, hg, hsz⟩
    · intro j x m hx hmm
      by_cases hj : j < es.length
      · rw [List.getElem?_append_left hj] at hx
        rw [List.getElem?_append_left (by rw [← hs.len]; exact hj)] at hmm
        exact krows j x m hx hmm
      · have hj2 : j = es.length := by
          have := (List.getElem?_eq_some_iff.1 hx).1
          simp at this; omega
        subst hj2
        rw [hs.len] at hmm
        simp at hx hmm
        subst hx hmm
        exact World.ownsRow_nil _ _ _ _
    · intro j k x y hjk hx hy
      by_cases hj : j < es.length
      · rw [List.getElem?_append_left hj] at hx
        by_cases hk2 : k < es.length
        · rw [List.getElem?_append_left hk2] at hy
          exact hs.apart j k x y hjk hx hy
        · have hk3 : k = es.length := by
            have := (List.getElem?_eq_some_iff.1 hy).1
            simp at this; omega
          subst hk3
          simp at hy
          subst hy
          cases hb : x.v.ownBlock with
          | none => exact .inl rfl
          | some g => exact .inr (by simp [Value.ownBlock])
      · have hj2 : j = es.length := by
          have := (List.getElem?_eq_some_iff.1 hx).1
          simp at this; omega
        subst hj2
        simp at hx
        subst hx
        exact .inl rfl
    · intro m hmm
      rcases List.mem_append.1 hmm with hx | hx
      · exact hs.lens m hx
      · simp at hx; subst hx; simp
    · unfold appS
      rw [if_neg hno, List.map_append]
      have e1 : ms.map (fun m => if m.1 = h then (m.1, m.2 ++ ys) else m) = ms := by
        have : ∀ m ∈ ms, (if m.1 = h then (m.1, m.2 ++ ys) else m) = m := fun m hm2 => if_neg (fun e => hno (List.mem_map.2 ⟨m, hm2, e⟩))
        rw [List.map_congr_left this]; simp
      rw [e1]; simp
/-- the last one: the list stored -/
theorem StE.store {w1 w2 : World} {b B i : Nat} {es1 : List Ent} {ms1 : List (Hs × List Hs)} {h : Hs} {e : Ent} {xs ys : List Hs} {v' : Value} (hs : StE w1 b B es1 ms1) (hee : es1[i]? = some e) (hmm : ms1[i]? = some (h, xs)) (hke : e.k = h) (hys : ∀ y ∈ ys, y.length = 32)
    (ho : w2.ownsRow B 34 32 v' (xs.length + ys.length) (UU (xs ++ ys))) (hg : w1.grownBy w2 e.v.ownBlock) (hf : v'.ownBlock = e.v.ownBlock ∨ v'.ownBlock = some w1.heap.size) :
    ∃ w3, (Instr.entryStore 48 (.map (some b)) (.int .i64 (e.b : Int)) v').run Try.prog w2 = .ok () w3 ∧ StM w3 b B (ms1.map (fun m => if m.1 = h then (m.1, m.2 ++ ys) else m)) ∧ w2.grownBy w3 (some b) ∧ w3.heap.size = w2.heap.size := by
  have hme := List.mem_of_getElem? hee
  have hm2 : HM w2 b es1 := hs.hm.kept hg (fun e1 => ownBlock_ne_map hs.hm (hs.rows i e _ hee hmm) e1.symm)
  obtain ⟨w3, hrun, hm3, hg3, hsz⟩ := hm2.estore (t := 48) hme v'
  have hkeys : ∀ (j : Nat) (x : Ent) (m : Hs × List Hs), es1[j]? = some x → ms1[j]? = some m → x.k = m.1 := by
    intro j x m hx hm
    have := congrArg (·[j]?) hs.keys
    simp only [List.getElem?_map, hx, hm, Option.map_some] at this
    exact Option.some.inj this
  have hnd := hs.nodup
  have hidx : ∀ (j : Nat) (m : Hs × List Hs), ms1[j]? = some m → m.1 = h → j = i := by
    intro j m hm hmh
    refine Classical.byContradiction fun hc => ?_
    have hj := (List.getElem?_eq_some_iff.1 hm)
    have hi := (List.getElem?_eq_some_iff.1 hmm)
    have hp := List.pairwise_iff_getElem.1 (List.nodup_iff_pairwise_ne.1 hnd)
    rcases Nat.lt_or_gt_of_ne hc with hlt | hlt
    · exact hp j i (by simpa using hj.1) (by simpa using hi.1) hlt (by simp [hj.2, hi.2, hmh])
    · exact hp i j (by simpa using hi.1) (by simpa using hj.1) hlt (by simp [hj.2, hi.2, hmh])
  refine ⟨w3, hrun, ⟨_, hm3, ?_, ?_, ?_, ?_⟩, hg3, hsz⟩
  · rw [map_keys, hs.keys, List.map_map]
    apply List.map_congr_left
    intro m _
    simp only [Function.comp]
    split <;> rfl
  · intro j x m hx hm
    simp only [List.getElem?_map] at hx hm
    obtain ⟨x0, hx0, rfl⟩ := Option.map_eq_some_iff.1 hx
    obtain ⟨m0, hm0, rfl⟩ := Option.map_eq_some_iff.1 hm
    have hk0 := hkeys j x0 m0 hx0 hm0
    by_cases hc : m0.1 = h
    · have hji := hidx j m0 hm0 hc
      subst hji
      rw [hmm] at hm0
      obtain rfl := Option.some.inj hm0
      rw [hee] at hx0
      obtain rfl := Option.some.inj hx0
      simp only [if_true]
      have := ho.kept hg3 (.inr (ownBlock_ne_map hm2 ho))
      simpa using this
    · have hne : ¬ x0.k = e.k := by rw [hk0, hke]; exact hc
      simp only [if_neg hc, if_neg hne]
      have hji : j ≠ i := by rintro rfl; rw [hmm] at hm0; obtain rfl := Option.some.inj hm0; exact hc rfl
      have h1 := (hs.rows j x0 m0 hx0 hm0).kept hg (hs.apart j i x0 e hji hx0 hee)
      exact h1.kept hg3 (.inr (ownBlock_ne_map hm2 h1))
  · have new : ∀ (j : Nat) (x0 : Ent), j ≠ i → es1[j]? = some x0 → x0.v.ownBlock = none ∨ x0.v.ownBlock ≠ v'.ownBlock := by
      intro j x0 hji hx0
      obtain ⟨m0, hm0, _⟩ := hs.partner hx0
      rcases hf with hf | hf
      · rw [hf]; exact hs.apart j i x0 e hji hx0 hee
      · rw [hf]
        right
        intro hc
        have := (hs.rows j x0 _ hx0 hm0).lt _ hc
        omega
    intro j k x y hjk hx hy
    simp only [List.getElem?_map] at hx hy
    obtain ⟨x0, hx0, rfl⟩ := Option.map_eq_some_iff.1 hx
    obtain ⟨y0, hy0, rfl⟩ := Option.map_eq_some_iff.1 hy
    obtain ⟨mj, hmj, hkj⟩ := hs.partner hx0
    obtain ⟨mk, hmk, hkk⟩ := hs.partner hy0
    by_cases hcx : x0.k = e.k
    · have hji : j = i := hidx j _ hmj (by rw [hkj, hcx, hke])
      subst hji
      have hcy : ¬ y0.k = e.k := by
        intro hc
        exact hjk (hidx k _ hmk (by rw [hkk, hc, hke])).symm
      simp only [if_pos hcx, if_neg hcy]
      rcases new k y0 (fun e1 => hjk e1.symm) hy0 with h1 | h1
      · rw [h1]
        cases hv : v'.ownBlock with
        | none => exact .inl rfl
        | some g => exact .inr (by simp)
      · exact .inr (fun e1 => h1 e1.symm)
    · simp only [if_neg hcx]
      by_cases hcy : y0.k = e.k
      · have hki : k = i := hidx k _ hmk (by rw [hkk, hcy, hke])
        subst hki
        simp only [if_pos hcy]
        exact new j x0 hjk hx0
      · simp only [if_neg hcy]
        exact hs.apart j k x0 y0 hjk hx0 hy0
  · intro m hm
    obtain ⟨m0, hm0, rfl⟩ := List.mem_map.1 hm
    split
    · rename_i hc
      intro y hy
      obtain ⟨j, hj, hjm⟩ := List.mem_iff_getElem.1 hm0
      rcases List.mem_append.1 hy with h1 | h1
      · exact hs.lens m0 hm0 y h1
      · exact hys y h1
    · exact hs.lens m0 hm0
end Go.Proofs.Ytijkpkcopjkhkaa.Oct

/- Layer 12 (deps): the steps from items to what they need. -/
namespace Go.Proofs.Ytijkpkcopjkhkaa.Oct
open Go.RowKit

section
variable {ops : Array Oper} {rest : List Oper} {o : Oper} {a : Act} {w : World} {Q : Exit → Act → World → Prop}
theorem wpList_mentry (hg : o.guard = none) (m x : Operand) (hop : o.op = Op.mapEntry 48 m x) (b B : Nat) (es : List Ent) (ms : List (Hs × List Hs)) (h : Hs) (hm : a.eval m = .map (some b)) (hx : a.eval x = .agg (U h).toArray) (hs : StE w b B es ms) (hl : h.length = 32)
    (hK : ∀ (w1 : World) (i : Nat) (e : Ent) (es1 : List Ent) (xs : List Hs) (ms1 : List (Hs × List Hs)), StE w1 b B es1 ms1 → es1[i]? = some e → ms1[i]? = some (h, xs) → e.k = h → (∀ ys, appS ms h ys = ms1.map (fun m => if m.1 = h then (m.1, m.2 ++ ys) else m)) → w.grownBy w1 (some b) → w1.heap.size = w.heap.size →
      wpList Try.prog ops Q rest (a.put o.dst (.tuple #[e.v, .int .i64 (e.b : Int)])) w1) : wpList Try.prog ops Q (o :: rest) a w := by
  refine wpList_plain hg fun K' hK' => ?_
  obtain ⟨w1, i, e, es1, xs, ms1, hrun, r1, r2, r3, r4, r5, r6, r7⟩ := hs.entry hl
  unfold Oper.wp
  simp [execOp, hop, hm, hx, hrun, Result.andThen]
  exact hK' _ _ (hK w1 i e es1 xs ms1 r1 r2 r3 r4 r5 r6 r7)
theorem wpList_mstore (hg : o.guard = none) (m s v : Operand) (hop : o.op = Op.entryStore 48 m s v) {w1 : World} {b B i : Nat} {es1 : List Ent} {ms1 : List (Hs × List Hs)} {h : Hs} {e : Ent} {xs ys : List Hs} {v' : Value} (hm : a.eval m = .map (some b)) (hst : a.eval s = .int .i64 (e.b : Int)) (hvv : a.eval v = v')
    (hs : StE w1 b B es1 ms1) (hee : es1[i]? = some e) (hmm : ms1[i]? = some (h, xs)) (hke : e.k = h) (hys : ∀ y ∈ ys, y.length = 32)
    (ho : w.ownsRow B 34 32 v' (xs.length + ys.length) (UU (xs ++ ys))) (hg1 : w1.grownBy w e.v.ownBlock) (hf : v'.ownBlock = e.v.ownBlock ∨ v'.ownBlock = some w1.heap.size)
    (hK : ∀ w3, StM w3 b B (ms1.map (fun m => if m.1 = h then (m.1, m.2 ++ ys) else m)) → w.grownBy w3 (some b) → w3.heap.size = w.heap.size → wpList Try.prog ops Q rest (a.put o.dst undef) w3) : wpList Try.prog ops Q (o :: rest) a w := by
  refine wpList_plain hg fun K' hK' => ?_
  obtain ⟨w3, hrun, r1, r2, r3⟩ := hs.store hee hmm hke hys ho hg1 hf
  unfold Oper.wp
  simp [execOp, hop, hm, hst, hvv, hrun, Result.andThen]
  exact hK' _ _ (hK w3 r1 r2 r3)
theorem wpList_app (hg : o.guard = none) (s x : Operand) (hop : o.op = Op.call { callee := Callee.builtin Builtin.append, args := #[s, x], argTypes := #[26, 26] }) (B : Nat) (v : Value) (n : Nat) (hs : List Hs) (oa : Option Addr) (m c : Nat) (xs : List Hs) (hv : a.eval s = v) (hx : a.eval x = .slice oa m c)
    (hown : w.ownsRow B 34 32 v n (UU hs)) (hxs : HsR w oa m xs) (hn : n + m ≤ 1000000) (hB : B ≤ w.heap.size)
    (hK : ∀ v' w', w'.ownsRow B 34 32 v' (n + m) (UU (hs ++ xs)) → w.grownBy w' v.ownBlock → (v'.ownBlock = v.ownBlock ∨ v'.ownBlock = some w.heap.size) → wpList Try.prog ops Q rest (a.put o.dst v') w') : wpList Try.prog ops Q (o :: rest) a w := by
  refine wpList_plain hg fun K' hK' => ?_
  obtain ⟨v', w', hrun, r1, r2, r3⟩ := run_app w B o.type v n hs oa m c xs hown hxs hn hB
  unfold Oper.wp execOp
  simp only [hop, resolve, invoke, builtin, Sem.run_bind, Sem.run_pure, Result.andThen_ok, List.map_toArray, List.map_cons, List.map_nil, hv, hx, hrun]
  exact hK' _ _ (hK v' w' r1 r2 r3)
end

def downS (l : List It) : List (Hs × List Hs) := l.foldl (fun ms x => appS ms x.name x.deps) []
theorem downS_take (l : List It) (i : Nat) (x : It) (h : l[i]? = some x) : downS (l.take (i + 1)) = appS (downS (l.take i)) x.name x.deps := by
  unfold downS
  rw [List.take_add_one, h, List.foldl_append]; rfl
theorem appS_bound {ms : List (Hs × List Hs)} {h : Hs} {xs : List Hs} {N : Nat} (hb : ∀ m ∈ ms, m.2.length ≤ N) : ∀ m ∈ appS ms h xs, m.2.length ≤ N + xs.length := by
  intro m hm
  unfold appS at hm
  split at hm
  · obtain ⟨m0, h0, rfl⟩ := List.mem_map.1 hm
    have := hb m0 h0
    split
    · simp; omega
    · omega
  · rcases List.mem_append.1 hm with h1 | h1
    · have := hb m h1; omega
    · simp at h1; subst h1; simp
theorem downS_bound (l : List It) : ∀ i, ∀ m ∈ downS (l.take i), m.2.length ≤ many (l.take i)
  | 0 => by simp [downS]
  | i + 1 => by
    cases h : l[i]? with
    | none => 
      have : l.take (i + 1) = l.take i := by rw [List.take_add_one, h]; simp
      rw [this]; exact downS_bound l i
    | some x =>
      rw [downS_take l i x h, many_take l i x h]
      exact appS_bound (downS_bound l i)
theorem many_le (l : List It) (i : Nat) : many (l.take i) ≤ many l := by
  have h : many l = many (l.take i) + many (l.drop i) := by
    unfold many
    rw [← List.sum_append, ← List.map_append, List.take_append_drop]
  omega
theorem dep_le (l : List It) (i : Nat) (x : It) (h : l[i]? = some x) : x.deps.length ≤ many l := by
  have h1 := many_take l i x h
  have h2 := many_le l (i + 1)
  omega
/-- what the entry of a key has is no more than all that was put in -/
theorem entry_len {ms ms1 : List (Hs × List Hs)} {h : Hs} {xs : List Hs} {k N : Nat} (hb : ∀ m ∈ ms, m.2.length ≤ N) (he : ∀ ys, appS ms h ys = ms1.map (fun m => if m.1 = h then (m.1, m.2 ++ ys) else m)) (hk : ms1[k]? = some (h, xs)) : xs.length ≤ N := by
  have h1 := appS_bound (h := h) (xs := []) hb
  rw [he []] at h1
  have := h1 (h, xs) (List.mem_map.2 ⟨(h, xs), List.mem_of_getElem? hk, by simp⟩)
  simpa using this
theorem below_row {w w1 w2 : World} {B n : Nat} {v : Value} {xs : List Value} (hb : Below w.heap.size w w1) (hg : w1.grownBy w2 v.ownBlock) (ho : w1.ownsRow B 34 32 v n xs) (hB : w.heap.size ≤ B := by exact Nat.le_refl _) : Below w.heap.size w w2 :=
  ⟨hg.os.trans hb.os, hg.tape.trans hb.tape, hg.output.trans hb.output, Nat.le_trans hb.size hg.size, fun k hk => (hg.block k (Nat.lt_of_lt_of_le hk hb.size) (fun e => by have := (ho.lt k e.symm).1; omega)).trans (hb.block k hk)⟩
def StepsP (w : World) (ms : List (Hs × List Hs)) (e : Ending) (w' : World) : Prop := ∃ b, e = .returned (.map (some b)) ∧ Hid (StM w' b w.heap.size ms ∧ w.heap.size ≤ b) ∧ Hid (Below w.heap.size w w')
theorem run_make48 (W : World) : (Instr.makeMap 48 none).run Try.prog W = .ok (.map (some W.heap.size)) (W.alloc (.map #[] 0)) := by
  simp [Instr.makeMap]

set_option maxRecDepth 100000 in
set_option maxHeartbeats 1000000 in
theorem down_is (w : World) (a : Option Addr) (len cap : Nat) (l : List It) (h : Its w a len l) (hn : len ≤ 100000) (hm : many l ≤ 100000) :
    Calls Try.prog 29 #[.slice a len cap] w (StepsP w (downS l)) := by
  have HA : Hid (Its w a len l) := h
  have HM : Hid (many l ≤ 100000) := hm
  have q5 : (len : Int) ≤ 100000 := by omega
  obtain ⟨Z, hZl, hZ⟩ := zero36
  have HZ : Hid (Z.length = 33) := hZl
  clear h hn hZl hm
  have hmk := run_make48
  go_enter Try.func29, Try.ntmps29
  go_wp2
  clear hmk
  obtain ⟨W, hW⟩ : ∃ W, w.alloc (.map #[] 0) = W := ⟨_, rfl⟩
  have HB0 : Hid (Below w.heap.size w W) := by show Below _ _ _; rw [← hW]; exact (Below.refl _ w).alloc (Nat.le_refl _) _
  have HK0 : Hid (StM W w.heap.size w.heap.size []) := by show StM _ _ _ _; rw [← hW]; exact StM.made w _
  rw [hW]
  clear hW
  go_loopw [9] (fun u wr => ∃ i : Nat, u = .int .i64 (i : Int) ∧ Hid (i ≤ len) ∧ Hid (Below w.heap.size w wr ∧ StM wr w.heap.size w.heap.size (downS (l.take i)))) (fun u _ => len - (intOf u).toNat)
  case atStart => exact ⟨0, rfl, Nat.zero_le _, ⟨HB0.out, HK0.out⟩⟩
  case round =>
    obtain ⟨i, rfl, HI, HB⟩ := hrel
    by_cases hi : i < len
    · obtain ⟨x, hx⟩ : ∃ x, l[i]? = some x := ⟨_, List.getElem?_eq_getElem (by rw [HA.out.1]; exact hi)⟩
      obtain ⟨b, off, rfl, hb, hel⟩ := HA.out.2 (by omega)
      have HX : Hid (i < len ∧ l[i]? = some x ∧ x.name.length = 32) := ⟨hi, hx, (hel i x hx).1⟩
      have HRA : Hid (wr.rangeAt b (off + i * 33) x.cells) := rangeAt_same (hel i x hx).2.1 (HB.out.1.block b hb)
      have HDW : Hid (HsR w x.a x.n x.deps) := (hel i x hx).2.2.1
      have q1 : (i : Int) < (len : Int) := by omega
      have hdp := cells_dep wr x (hel i x hx).1
      obtain ⟨es, hes⟩ := HB.out.2
      have HE : Hid (StE (wr.alloc (.cells x.cells.toArray 36)) w.heap.size w.heap.size es (downS (l.take i))) := hes.below ((Below.refl _ wr).alloc (Nat.le_refl _) _)
      clear hel hx hi hes
      go_wp2_with (first
        | (with_reducible change wpList _ _ _ ({ dst := some 12, op := _, type := _, pos := _, after := _, guard := _ } :: _) _ _
           refine wpList_load_mid rfl 36 (.tmp 11) rfl b (off + i * 33) rfl x.cells _ HRA.out Try.underlying36 rfl (info36 x HX.out.2.2) ?_)
        | (with_reducible change wpList _ _ _ ({ dst := none, op := Op.store 36 _ _, type := _, pos := _, after := _, guard := _ } :: _) _ _
           refine wpList_store_fresh rfl 36 (.tmp 5) (.tmp 12) rfl Z x.cells 36 rfl rfl (by rw [x.cells_length HX.out.2.2, HZ.out]) (info36 x HX.out.2.2) (cells_one x) ?_)
        | (with_reducible change wpList _ _ _ ({ dst := some 15, op := _, type := _, pos := _, after := _, guard := _ } :: _) _ _
           refine wpList_load_mid rfl 34 (.tmp 14) rfl wr.heap.size 0 rfl (U x.name) _ (cells_name wr x) Try.underlying34 rfl (info34 x.name HX.out.2.2) ?_)
        | (with_reducible change wpList _ _ _ ({ dst := some 19, op := _, type := _, pos := _, after := _, guard := _ } :: _) _ _
           refine wpList_mentry rfl (.tmp 13) (.tmp 15) rfl w.heap.size w.heap.size es _ x.name rfl rfl HE.out HX.out.2.2 ?_
           intro w1 k e es1 xs ms1 r1 r2 r3 r4 r5 r6 r7
           have HR : Hid (StE w1 w.heap.size w.heap.size es1 ms1 ∧ es1[k]? = some e ∧ ms1[k]? = some (x.name, xs) ∧ e.k = x.name ∧ (∀ ys, appS (downS (l.take i)) x.name ys = ms1.map (fun m => if m.1 = x.name then (m.1, m.2 ++ ys) else m)) ∧ (wr.alloc (.cells x.cells.toArray 36)).grownBy w1 (some w.heap.size)) := ⟨r1, r2, r3, r4, r5, r6⟩
           have HXS : Hid (xs.length + x.n ≤ 1000000 ∧ HsR w1 x.a x.n x.deps ∧ Below w.heap.size w w1) := (by
             have hb1 : Below w.heap.size w w1 := below_grownBy (HB.out.1.alloc HB.out.1.size _) r6 (Nat.le_refl _) (Nat.le_refl _)
             have h1 := entry_len (downS_bound l i) r5 r3
             have h2 := many_le l i
             have h3 := dep_le l i x HX.out.2.1
             have h4 := HDW.out.1
             have h5 := HM.out
             exact ⟨by omega, HDW.out.below hb1, hb1⟩)
           clear r1 r2 r3 r4 r5 r6 r7)
        | (with_reducible change wpList _ _ _ ({ dst := some 20, op := _, type := _, pos := _, after := _, guard := _ } :: _) _ _
           refine wpList_app rfl (.tmp 16) (.tmp 18) rfl w.heap.size e.v xs.length xs x.a x.n x.c x.deps rfl rfl (HR.out.1.rows k e _ HR.out.2.1 HR.out.2.2.1) HXS.out.2.1 HXS.out.1 HXS.out.2.2.size ?_
           intro v' w2 r1 r2 r3
           have HV : Hid (w2.ownsRow w.heap.size 34 32 v' (xs.length + x.deps.length) (UU (xs ++ x.deps)) ∧ w1.grownBy w2 e.v.ownBlock ∧ (v'.ownBlock = e.v.ownBlock ∨ v'.ownBlock = some w1.heap.size)) := ⟨by rw [HDW.out.1]; exact r1, r2, r3⟩
           clear r1 r2 r3)
        | (with_reducible change wpList _ _ _ ({ dst := none, op := Op.entryStore _ _ _ _, type := _, pos := _, after := _, guard := _ } :: _) _ _
           refine wpList_mstore rfl (.tmp 13) (.tmp 21) (.tmp 20) rfl rfl rfl rfl HR.out.1 HR.out.2.1 HR.out.2.2.1 HR.out.2.2.2.1 HDW.out.2.1 HV.out.1 HV.out.2.1 HV.out.2.2 ?_
           intro w3 r1 r2 r3))
      refine ⟨⟨i + 1, by simp, HX.out.1, ?_, by rw [downS_take l i x HX.out.2.1, HR.out.2.2.2.2.1]; exact r1⟩, ?_⟩
      · refine below_grownBy (a := w2) ?_ r2 (Nat.le_refl _) (Nat.le_refl _)
        exact below_row HXS.out.2.2 HV.out.2.1 (HR.out.1.rows k e _ HR.out.2.1 HR.out.2.2.1)
      · have := HX.out.1; simp [intOf]; omega
    · have q1 : ¬ (i : Int) < (len : Int) := by omega
      go_wp2
      go_ret
      refine ⟨w.heap.size, rfl, ⟨?_, Nat.le_refl _⟩, HB.out.1⟩
      have := HB.out.2
      rw [List.take_of_length_le (by rw [HA.out.1]; omega)] at this
      exact this
end Go.Proofs.Ytijkpkcopjkhkaa.Oct

/- Layer 12 (deps): the steps the other way round. -/
namespace Go.Proofs.Ytijkpkcopjkhkaa.Oct
open Go.RowKit

def upI (ms : List (Hs × List Hs)) (n : Hs) (ds : List Hs) : List (Hs × List Hs) := ds.foldl (fun ms d => appS ms d [n]) ms
def upS (l : List It) : List (Hs × List Hs) := l.foldl (fun ms x => upI ms x.name x.deps) []
theorem upS_take (l : List It) (i : Nat) (x : It) (h : l[i]? = some x) : upS (l.take (i + 1)) = upI (upS (l.take i)) x.name x.deps := by
  unfold upS
  rw [List.take_add_one, h, List.foldl_append]; rfl
theorem upI_take (ms : List (Hs × List Hs)) (n : Hs) (ds : List Hs) (j : Nat) (d : Hs) (h : ds[j]? = some d) : upI ms n (ds.take (j + 1)) = appS (upI ms n (ds.take j)) d [n] := by
  unfold upI
  rw [List.take_add_one, h, List.foldl_append]; rfl
theorem upI_bound {ms : List (Hs × List Hs)} {n : Hs} {N : Nat} (hb : ∀ m ∈ ms, m.2.length ≤ N) (ds : List Hs) : ∀ j, ∀ m ∈ upI ms n (ds.take j), m.2.length ≤ N + j
  | 0 => by simpa [upI] using hb
  | j + 1 => by
    cases h : ds[j]? with
    | none =>
      have : ds.take (j + 1) = ds.take j := by rw [List.take_add_one, h]; simp
      rw [this]
      intro m hm
      have := upI_bound hb ds j m hm
      omega
    | some d =>
      rw [upI_take ms n ds j d h]
      intro m hm
      have := appS_bound (upI_bound hb ds j) m hm
      simp at this
      omega
theorem upS_bound (l : List It) : ∀ i, ∀ m ∈ upS (l.take i), m.2.length ≤ many (l.take i)
  | 0 => by simp [upS]
  | i + 1 => by
    cases h : l[i]? with
    | none =>
      have : l.take (i + 1) = l.take i := by rw [List.take_add_one, h]; simp
      rw [this]; exact upS_bound l i
    | some x =>
      rw [upS_take l i x h, many_take l i x h]
      intro m hm
      have := upI_bound (n := x.name) (upS_bound l i) x.deps x.deps.length m (by rw [List.take_length]; exact hm)
      exact this
theorem zero34 : ∃ Z : List Value, Z.length = 32 ∧ ∀ W, (zeroValue 34).run Try.prog W = .ok (.agg Z.toArray) W := ⟨List.replicate 32 (.int .u8 0), by simp, fun W => by kernel_rfl⟩
theorem fold_set : ∀ (cs : List Value) (k : Nat) (A : Array Value), A.size = k + cs.length → ((cs.zipIdx k).foldl (fun a x => a.setIfInBounds x.2 x.1) A).toList = A.toList.take k ++ cs
  | [], k, A, h => by
    rw [List.take_of_length_le (by simp at h ⊢; omega)]; simp
  | c :: cs, k, A, h => by
    rw [List.zipIdx_cons, List.foldl_cons, fold_set cs (k + 1) _ (by simp at h ⊢; omega)]
    have hk : k < A.toList.length := by simp at h ⊢; omega
    simp only [Array.toList_setIfInBounds]
    rw [List.take_succ_eq_append_getElem (by simpa using hk), List.take_set_of_le (Nat.le_refl _)]
    simp
theorem run_bslice1 (h : Hs) (hl : h.length = 32) (W : World) : (Instr.buildSlice 26 1 #[(0, .agg (U h).toArray)]).run Try.prog W = .ok (.slice (some ⟨W.heap.size, 0, none⟩) 1 1) (W.alloc (.cells (U h).toArray 34)) := by
  obtain ⟨i, hi, hs1, hby, z, hz, hzs⟩ := info34'
  have e : ∀ A : Array Value, A.size = 32 → List.foldl (fun cs (x : Value × Nat) => cs.setIfInBounds x.2 x.1) A (U h).zipIdx = (U h).toArray := by
    intro A hA
    apply Array.toList_inj.1
    rw [fold_set (U h) 0 A (by rw [U_length, hl, hA])]
    simp
  simp [Instr.buildSlice, run_underlying Try.underlying26, sizeOf, typeInfo, hi, hs1, zeroValue, hz, Instr.fill, Value.cells, U_length, hl, e]
  simp [newRow]
theorem wpList_bslice1 {ops : Array Oper} {rest : List Oper} {o : Oper} {a : Act} {w : World} {Q : Exit → Act → World → Prop} (hg : o.guard = none) (x : Operand) (hop : o.op = Op.buildSlice 26 1 #[(0, x)]) (h : Hs) (hl : h.length = 32) (hx : a.eval x = .agg (U h).toArray)
    (hK : wpList Try.prog ops Q rest (a.put o.dst (.slice (some ⟨w.heap.size, 0, none⟩) 1 1)) (w.alloc (.cells (U h).toArray 34))) : wpList Try.prog ops Q (o :: rest) a w := by
  refine wpList_plain hg fun K' hK' => ?_
  unfold Oper.wp execOp
  simp [hop, hx, run_bslice1 h hl, Result.andThen]
  exact hK' _ _ hK
theorem HsR.one (w : World) (h : Hs) (hl : h.length = 32) : HsR (w.alloc (.cells (U h).toArray 34)) (some ⟨w.heap.size, 0, none⟩) 1 [h] := by
  refine ⟨rfl, by simpa using hl, fun _ => ⟨_, _, rfl, by simp, fun i x hi => ?_⟩⟩
  cases i with
  | zero =>
    simp at hi; subst hi
    intro j v hj
    have := (Blk.new w (U h).toArray 34).cell (i := j) (v := v) (by simpa using hj)
    simpa using this
  | succ i => simp at hi
theorem new34 (w : World) (h : Hs) : (w.alloc (.cells (U h).toArray 34)).rangeAt w.heap.size 0 (U h) := by
  intro j v hj
  have := (Blk.new w (U h).toArray 34).cell (i := 0 + j) (v := v) (by simpa using hj)
  exact this
theorem Blk.name {w : World} {b : Nat} {x : It} (h : Blk w b 36 x.cells) : w.rangeAt b 0 (U x.name) := by
  intro j v hj
  have hlt := (List.getElem?_eq_some_iff.1 hj).1
  refine h.cell (i := 0 + j) ?_
  simp only [It.cells, Nat.zero_add]
  rw [List.getElem?_append_left hlt]; exact hj
theorem Blk.row_ne {w : World} {b B n : Nat} {L : List Value} {v : Value} {xs : List Value} {t : TypeId} (h : Blk w b t L) (ht : t ≠ 34) (ho : w.ownsRow B 34 32 v n xs) : some b ≠ v.ownBlock := by
  rcases ho.2 with ⟨rfl, _⟩ | ⟨g, cap, cur, rfl, _, hg, _⟩
  · simp [Value.ownBlock]
  · intro e
    have : b = g := by simpa [Value.ownBlock] using e
    subst this
    rw [show w.heap[b]? = some (.cells L.toArray t (0, 0)) from h] at hg
    cases hg
    exact ht rfl

set_option maxRecDepth 100000 in
set_option maxHeartbeats 2000000 in
theorem up_is (w : World) (a : Option Addr) (len cap : Nat) (l : List It) (h : Its w a len l) (hn : len ≤ 100000) (hm : many l ≤ 100000) :
    Calls Try.prog 32 #[.slice a len cap] w (StepsP w (upS l)) := by
  have HA : Hid (Its w a len l) := h
  have HM : Hid (many l ≤ 100000) := hm
  have q5 : (len : Int) ≤ 100000 := by omega
  obtain ⟨Z, hZl, hZ⟩ := zero36
  obtain ⟨Y, hYl, hY⟩ := zero34
  have HZ : Hid (Z.length = 33 ∧ Y.length = 32) := ⟨hZl, hYl⟩
  clear h hn hZl hm hYl
  have hmk := run_make48
  go_enter Try.func32, Try.ntmps32
  go_wp2
  clear hmk
  obtain ⟨W, hW⟩ : ∃ W, w.alloc (.map #[] 0) = W := ⟨_, rfl⟩
  have HB0 : Hid (Below w.heap.size w W ∧ w.heap.size < W.heap.size) := ⟨by rw [← hW]; exact (Below.refl _ w).alloc (Nat.le_refl _) _, by rw [← hW]; simp⟩
  have HK0 : Hid (StM W w.heap.size w.heap.size []) := by show StM _ _ _ _; rw [← hW]; exact StM.made w _
  rw [hW]
  clear hW
  go_loopw [11] (fun u wr => ∃ i : Nat, u = .int .i64 (i : Int) ∧ Hid (i ≤ len) ∧ Hid (Below w.heap.size w wr ∧ StM wr w.heap.size w.heap.size (upS (l.take i)))) (fun u _ => len - (intOf u).toNat)
  case atStart => exact ⟨0, rfl, Nat.zero_le _, ⟨HB0.out.1, HK0.out⟩⟩
  case round =>
    obtain ⟨i, rfl, HI, HB⟩ := hrel
    by_cases hi : i < len
    · obtain ⟨x, hx⟩ : ∃ x, l[i]? = some x := ⟨_, List.getElem?_eq_getElem (by rw [HA.out.1]; exact hi)⟩
      obtain ⟨b, off, rfl, hb, hel⟩ := HA.out.2 (by omega)
      have HX : Hid (i < len ∧ l[i]? = some x ∧ x.name.length = 32) := ⟨hi, hx, (hel i x hx).1⟩
      have HRA : Hid (wr.rangeAt b (off + i * 33) x.cells) := rangeAt_same (hel i x hx).2.1 (HB.out.1.block b hb)
      have HDW : Hid (HsR w x.a x.n x.deps) := (hel i x hx).2.2.1
      have HXN : Hid (x.n ≤ 100000) := by show _ ≤ _; have h1 := dep_le l i x hx; have h2 := HDW.out.1; have h3 := HM.out; omega
      have q1 : (i : Int) < (len : Int) := by omega
      have hdp := cells_dep wr x (hel i x hx).1
      clear hel hx hi
      go_wp2_with (first
        | (with_reducible change wpList _ _ _ ({ dst := some 14, op := _, type := _, pos := _, after := _, guard := _ } :: _) _ _
           refine wpList_load_mid rfl 36 (.tmp 13) rfl b (off + i * 33) rfl x.cells _ HRA.out Try.underlying36 rfl (info36 x HX.out.2.2) ?_)
        | (with_reducible change wpList _ _ _ ({ dst := none, op := Op.store 36 _ _, type := _, pos := _, after := _, guard := _ } :: _) _ _
           refine wpList_store_fresh rfl 36 (.tmp 5) (.tmp 14) rfl Z x.cells 36 rfl rfl (by rw [x.cells_length HX.out.2.2, HZ.out.1]) (info36 x HX.out.2.2) (cells_one x) ?_)
        | fail)
      obtain ⟨bi, hbi⟩ : ∃ bi, wr.heap.size = bi := ⟨_, rfl⟩
      obtain ⟨V, hV⟩ : ∃ V, wr.alloc (.cells x.cells.toArray 36) = V := ⟨_, rfl⟩
      have hbV : Below wr.heap.size wr V := by rw [← hV]; exact (Below.refl _ wr).alloc (Nat.le_refl _) _
      have HV : Hid (Below w.heap.size w V ∧ StM V w.heap.size w.heap.size (upS (l.take i)) ∧ Blk V bi 36 x.cells ∧ w.heap.size < bi) := ⟨HB.out.1.trans (hbV.mono HB.out.1.size), HB.out.2.below hbV, by rw [← hV, ← hbi]; simpa using Blk.new wr x.cells.toArray 36, by rw [← hbi]; exact HB.out.2.lt⟩
      rw [hV, hbi]
      clear hV hbi hbV hdp HRA
      obtain ⟨W1, hW1⟩ : ∃ W1, W1 = wr := ⟨_, rfl⟩
      subst hW1
      have q2 : (x.n : Int) ≤ 100000 := by have := HXN.out; omega
      go_loopw [18] (fun u wr => ∃ j : Nat, u = .int .i64 (j : Int) ∧ Hid (j ≤ x.n) ∧ Hid (Below w.heap.size w wr ∧ StM wr w.heap.size w.heap.size (upI (upS (l.take i)) x.name (x.deps.take j)) ∧ Blk wr bi 36 x.cells)) (fun u _ => x.n - (intOf u).toNat)
      case atStart => exact ⟨0, rfl, Nat.zero_le _, ⟨HV.out.1, HV.out.2.1, HV.out.2.2.1⟩⟩
      case round =>
        obtain ⟨j, rfl, HJ, HB2⟩ := hrel
        by_cases hj : j < x.n
        · obtain ⟨d, hd⟩ : ∃ d, x.deps[j]? = some d := ⟨_, List.getElem?_eq_getElem (by rw [HDW.out.1]; exact hj)⟩
          obtain ⟨g2, off2, hxa, hg2, hel2⟩ := HDW.out.2.2 (by omega)
          have HD : Hid (j < x.n ∧ x.deps[j]? = some d ∧ d.length = 32 ∧ wr.rangeAt g2 (off2 + j * 32) (U d)) := ⟨hj, hd, HDW.out.2.1 d (List.mem_of_getElem? hd), rangeAt_same (hel2 j d hd) (HB2.out.1.block g2 hg2)⟩
          have q3 : (j : Int) < (x.n : Int) := by omega
          obtain ⟨es, hes⟩ := HB2.out.2.1
          have HE : Hid (StE ((wr.alloc (.cells (U d).toArray 34)).alloc (.cells (U x.name).toArray 34)) w.heap.size w.heap.size es (upI (upS (l.take i)) x.name (x.deps.take j))) := (hes.below ((Below.refl _ wr).alloc (Nat.le_refl _) _)).below ((Below.refl _ _).alloc (Nat.le_refl _) _)
          clear hj hd hel2 hes
          rw [hxa]
          go_wp2_with (first
            | (with_reducible change wpList _ _ _ ({ dst := some 21, op := _, type := _, pos := _, after := _, guard := _ } :: _) _ _
               refine wpList_load_mid rfl 34 (.tmp 20) rfl g2 (off2 + j * 32) rfl (U d) _ HD.out.2.2.2 Try.underlying34 rfl (info34 d HD.out.2.2.1) ?_)
            | (with_reducible change wpList _ _ _ ({ dst := none, op := Op.store 34 _ _, type := _, pos := _, after := _, guard := _ } :: _) _ _
               refine wpList_store_fresh rfl 34 (.tmp 7) (.tmp 21) rfl Y (U d) 34 rfl rfl (by rw [U_length, HD.out.2.2.1, HZ.out.2]) (info34 d HD.out.2.2.1) (U_one d) ?_)
            | (with_reducible change wpList _ _ _ ({ dst := some 23, op := _, type := _, pos := _, after := _, guard := _ } :: _) _ _
               refine wpList_load_mid rfl 34 (.tmp 7) rfl wr.heap.size 0 rfl (U d) _ (new34 wr d) Try.underlying34 rfl (info34 d HD.out.2.2.1) ?_)
            | (with_reducible change wpList _ _ _ ({ dst := some 26, op := _, type := _, pos := _, after := _, guard := _ } :: _) _ _
               refine wpList_load_mid rfl 34 (.tmp 25) rfl bi 0 rfl (U x.name) _ (Blk.name (HB2.out.2.2.alloc _)) Try.underlying34 rfl (info34 x.name HX.out.2.2) ?_)
            | (with_reducible change wpList _ _ _ ({ dst := some 27, op := _, type := _, pos := _, after := _, guard := _ } :: _) _ _
               refine wpList_bslice1 rfl (.tmp 26) rfl x.name HX.out.2.2 rfl ?_)
            | (with_reducible change wpList _ _ _ ({ dst := some 28, op := _, type := _, pos := _, after := _, guard := _ } :: _) _ _
               refine wpList_mentry rfl (.tmp 22) (.tmp 23) rfl w.heap.size w.heap.size es _ d rfl rfl HE.out HD.out.2.2.1 ?_
               intro w1 k e es1 xs ms1 r1 r2 r3 r4 r5 r6 r7
               have HR : Hid (StE w1 w.heap.size w.heap.size es1 ms1 ∧ es1[k]? = some e ∧ ms1[k]? = some (d, xs) ∧ e.k = d ∧ (∀ ys, appS (upI (upS (l.take i)) x.name (x.deps.take j)) d ys = ms1.map (fun m => if m.1 = d then (m.1, m.2 ++ ys) else m)) ∧ ((wr.alloc (.cells (U d).toArray 34)).alloc (.cells (U x.name).toArray 34)).grownBy w1 (some w.heap.size)) := ⟨r1, r2, r3, r4, r5, r6⟩
               have HXS : Hid (xs.length + 1 ≤ 1000000 ∧ HsR w1 (some ⟨wr.heap.size + 1, 0, none⟩) 1 [x.name] ∧ Below w.heap.size w w1 ∧ Blk w1 bi 36 x.cells) := (by
                 have hb1 : Below w.heap.size w w1 := below_grownBy ((HB2.out.1.alloc HB2.out.1.size _).alloc (by have := HB2.out.1.size; simp; omega) _) r6 (Nat.le_refl _) (Nat.le_refl _)
                 have h1 := entry_len (upI_bound (upS_bound l i) x.deps j) r5 r3
                 have h2 := many_le l i
                 have h3 := dep_le l i x HX.out.2.1
                 have h4 := HDW.out.1
                 have h5 := HM.out
                 have h6 := HD.out.1
                 have hone := HsR.one (wr.alloc (.cells (U d).toArray 34)) x.name HX.out.2.2
                 rw [World.size_alloc] at hone
                 refine ⟨by omega, hone.same r6.size (fun g off e1 => r6.block g ?_ ?_), hb1, ((HB2.out.2.2.alloc _).alloc _).kept r6 (by have := HV.out.2.2.2; simp; omega)⟩
                 · simp only [Option.some.injEq, Addr.mk.injEq] at e1
                   have := e1.1; simp; omega
                 · simp only [Option.some.injEq, Addr.mk.injEq] at e1
                   have := e1.1; have := HB2.out.1.size; simp; omega)
               clear r1 r2 r3 r4 r5 r6 r7)
            | (with_reducible change wpList _ _ _ ({ dst := some 29, op := _, type := _, pos := _, after := _, guard := _ } :: _) _ _
               refine wpList_app rfl (.tmp 24) (.tmp 27) rfl w.heap.size e.v xs.length xs (some ⟨wr.heap.size + 1, 0, none⟩) 1 1 [x.name] rfl rfl (HR.out.1.rows k e _ HR.out.2.1 HR.out.2.2.1) HXS.out.2.1 HXS.out.1 HXS.out.2.2.1.size ?_
               intro v' w2 r1 r2 r3
               have HVV : Hid (w2.ownsRow w.heap.size 34 32 v' (xs.length + [x.name].length) (UU (xs ++ [x.name])) ∧ w1.grownBy w2 e.v.ownBlock ∧ (v'.ownBlock = e.v.ownBlock ∨ v'.ownBlock = some w1.heap.size)) := ⟨r1, r2, r3⟩
               clear r1 r2 r3)
            | (with_reducible change wpList _ _ _ ({ dst := none, op := Op.entryStore _ _ _ _, type := _, pos := _, after := _, guard := _ } :: _) _ _
               refine wpList_mstore rfl (.tmp 22) (.tmp 30) (.tmp 29) rfl rfl rfl rfl HR.out.1 HR.out.2.1 HR.out.2.2.1 HR.out.2.2.2.1 (by simpa using HX.out.2.2) HVV.out.1 HVV.out.2.1 HVV.out.2.2 ?_
               intro w3 r1 r2 r3))
          have hrow := HR.out.1.rows k e _ HR.out.2.1 HR.out.2.2.1
          refine ⟨⟨j + 1, by simp, HD.out.1, ?_, by rw [upI_take _ _ _ j d HD.out.2.1, HR.out.2.2.2.2.1]; exact r1, ?_⟩, ?_⟩
          · refine below_grownBy (a := w2) ?_ r2 (Nat.le_refl _) (Nat.le_refl _)
            exact below_row HXS.out.2.2.1 HVV.out.2.1 hrow
          · exact (HXS.out.2.2.2.kept HVV.out.2.1 (HXS.out.2.2.2.row_ne (by decide) hrow)).kept r2 (by have := HV.out.2.2.2; simp; omega)
          · have := HD.out.1; simp [intOf]; omega
        · have q3 : ¬ (j : Int) < (x.n : Int) := by omega
          go_wp2
          refine ⟨⟨i + 1, by simp, HX.out.1, HB2.out.1, ?_⟩, ?_⟩
          · have := HB2.out.2.1
            rw [List.take_of_length_le (l := x.deps) (by rw [HDW.out.1]; omega)] at this
            rw [upS_take l i x HX.out.2.1]; exact this
          · have := HX.out.1; simp [intOf]; omega
    · have q1 : ¬ (i : Int) < (len : Int) := by omega
      go_wp2
      go_ret
      refine ⟨w.heap.size, rfl, ⟨?_, Nat.le_refl _⟩, HB.out.1⟩
      have := HB.out.2
      rw [List.take_of_length_le (by rw [HA.out.1]; omega)] at this
      exact this
end Go.Proofs.Ytijkpkcopjkhkaa.Oct

/- Layer 12 (deps): the laws' items and hashes among their arguments, as the walks take them. -/
namespace Go.Proofs.Ytijkpkcopjkhkaa.Oct
open Go.RowKit Go.ChangeShapes Go.WideShapes Go.ChangeAt Go.Deep

instance : Inhabited It := ⟨⟨[], [], none, 0, 0⟩⟩
section
variable {H : Type} {enc : TypeId × Value → H} {w : World}

theorem mem_weightsAll {P : Program} {e : TypeId} {d : DataW H} {n : Nat} (hn : n ∈ d.weights P e) : ∀ {ds : List (DataW H)}, d ∈ ds → n ∈ DataW.weightsAll P e ds
  | [], h => by cases h
  | d0 :: r, h => by
    simp only [DataW.weightsAll, List.mem_append]
    rcases List.mem_cons.1 h with rfl | h
    · exact .inl hn
    · exact .inr (mem_weightsAll hn h)
/-- a hash that was read -/
theorem view_hash {n : Nat} {cs : List Value} {x : DataW H × List MemPlace} (h : DataW.trod enc Try.prog w 0 (fun _ => true) true n 34 cs = some x) : ∃ hh : Hs, hh.length = 32 ∧ cs = U hh := by
  obtain ⟨xs, m, _, _, hl, hxl, hf⟩ := DataW.trod_array Try.underlying34 h
  have hl' : cs.length = 32 := by rw [hl]; kernel_rfl
  have c5 : Try.prog.cellsOf 5 = 1 := by kernel_rfl
  rw [c5] at hf
  have each : ∀ i, i < 32 → ∃ c : UInt8, cs[i]? = some (.int .u8 (c.toNat : Int)) := by
    intro i hi
    have h1 := hf i hi
    rw [List.getElem?_eq_getElem (by omega)] at h1
    obtain ⟨k, hk, _, hw⟩ := DataW.trod_int Try.underlying5 h1
    have hb := bounds_u8 hw
    refine ⟨UInt8.ofNat k.toNat, ?_⟩
    have : cs[i]? = some (.int .u8 k) := by
      rw [Nat.mul_one] at hk
      have := congrArg (·[0]?) hk
      simpa [List.getElem?_take, List.getElem?_drop] using this
    rw [this, UInt8.toNat_ofNat']
    congr 2
    omega
  obtain ⟨G, hG⟩ := choose_lt each
  refine ⟨(List.range 32).map G, by simp, ?_⟩
  apply List.ext_getElem?
  intro i
  by_cases hi : i < 32
  · rw [hG i hi]; simp [U, hi]
  · rw [List.getElem?_eq_none (by omega), List.getElem?_eq_none (by simp [U]; omega)]
/-- cells that were read are a range -/
theorem range_of_cells {b off n : Nat} {cs : List Value} (h : w.cells? 0 ⟨b, off, none⟩ n = some cs) : w.rangeAt b off cs := by
  obtain ⟨_, hlen, hcell⟩ := World.cells?_some h
  intro j v hj
  have hlt := (List.getElem?_eq_some_iff.1 hj).1
  have := hcell j (by omega)
  rw [Addr.add_lit] at this
  rw [← hj]
  exact this
/-- hashes that were read -/
theorem view_hashes {fuel : Nat} {cs : List Value} {x : DataW H × List MemPlace} (h : DataW.trod enc Try.prog w 0 (fun _ => true) true fuel 26 cs = some x) (hx : ∀ n ∈ x.1.weights Try.prog 26, n ≤ reachBytes) :
    ∃ a len cap hs, cs = [.slice a len cap] ∧ HsR w a len hs ∧ len ≤ cap ∧ len ≤ 140737488355328 := by
  rcases open_slice Try.underlying26 h with ⟨hcs, _⟩ | ⟨ad, len, cap, m, n, D, Pl, hcs, _, hl, hm, hmm, hd, hr⟩
  · exact ⟨none, 0, 0, [], hcs, HsR.nil _ _, Nat.le_refl _, by omega⟩
  · refine ⟨some ad, len, cap, ?_⟩
    simp at hmm
    have ce : Try.prog.cellsOf 34 = 32 := by kernel_rfl
    rw [ce] at hr
    have hsp : 0 < len → ad.spot = none := fun hp => by
      obtain ⟨cs, h1, _⟩ := hr 0 (by omega)
      obtain ⟨_, hlen, hcell⟩ := World.cells?_some h1
      have h0 := hcell 0 (by omega)
      rw [List.getElem?_eq_getElem (by omega)] at h0
      have := World.cell?_spot h0
      simpa [Addr.add] using this
    have each : ∀ i, i < len → ∃ x : Hs, x.length = 32 ∧ ∃ b off, ad = ⟨b, off, none⟩ ∧ b < w.heap.size ∧ w.rangeAt b (off + i * 32) (U x) := by
      intro i hi
      obtain ⟨cs, h1, h2⟩ := hr i (by omega)
      obtain ⟨hh, hhl, rfl⟩ := view_hash h2
      obtain ⟨b, off, spot⟩ := ad
      have hspot : spot = none := hsp (by omega)
      subst hspot
      rw [Addr.add_lit] at h1
      have hra := range_of_cells h1
      refine ⟨hh, hhl, b, off, rfl, ?_, hra⟩
      have e0 := hra 0 _ (U_get hh 0 (by omega))
      have := World.block_lt_of_cell? w _ e0
      simpa using this
    obtain ⟨G, hG⟩ := choose_lt each
    refine ⟨(List.range len).map G, hcs, ⟨by simp, ?_, fun hp => ?_⟩, hl, ?_⟩
    · intro h hh
      obtain ⟨i, hi, rfl⟩ := List.mem_map.1 hh
      exact (hG i (List.mem_range.1 hi)).1
    · obtain ⟨_, b, off, e1, e2, _⟩ := hG 0 hp
      refine ⟨b, off, by rw [e1], e2, fun i x hi => ?_⟩
      have hlt : i < len := by
        have := (List.getElem?_eq_some_iff.1 hi).1
        simpa using this
      have e : G i = x := by simpa [List.getElem?_map, List.getElem?_range hlt] using hi
      subst e
      obtain ⟨_, b', off', f1, _, f3⟩ := hG i hlt
      rw [e1] at f1
      cases f1
      exact f3
    · have hmem : (len + (m - len)) * Try.prog.bytesOf 34 ∈ x.1.weights Try.prog 26 := by
        rw [hd]
        simp [DataW.weights, Try.underlying26]
      have := hx _ hmem
      rw [show Try.prog.bytesOf 34 = 32 by kernel_rfl] at this
      simp only [reachBytes] at this
      omega
/-- items that were read -/
theorem view_items {fuel : Nat} {a : Option Addr} {len cap : Nat} {x : DataW H × List MemPlace} (h : DataW.trod enc Try.prog w 0 (fun _ => true) true fuel 22 (Value.slice a len cap).cells.toList = some x) (hx : ∀ n ∈ x.1.weights Try.prog 22, n ≤ reachBytes) :
    ∃ l, Its w a len l ∧ len ≤ cap ∧ cap ≤ maxLen := by
  rcases open_slice Try.underlying22 h with ⟨hcs, _⟩ | ⟨ad, l, c, m, n, D, Pl, hcs, _, hl, hm, hmm, hd, hr⟩
  · simp [Value.cells] at hcs
    obtain ⟨rfl, rfl, rfl⟩ := hcs
    exact ⟨[], ⟨rfl, fun h => absurd h (by omega)⟩, Nat.le_refl _, by unfold maxLen; omega⟩
  · simp [Value.cells] at hcs
    obtain ⟨rfl, rfl, rfl⟩ := hcs
    simp at hmm
    have ce : Try.prog.cellsOf 36 = 33 := by kernel_rfl
    rw [ce] at hr
    have hsp : 0 < len → ad.spot = none := fun hp => by
      obtain ⟨cs, h1, _⟩ := hr 0 (by omega)
      obtain ⟨_, hlen, hcell⟩ := World.cells?_some h1
      have h0 := hcell 0 (by omega)
      rw [List.getElem?_eq_getElem (by omega)] at h0
      have := World.cell?_spot h0
      simpa [Addr.add] using this
    have each : ∀ i, i < len → ∃ x : It, ∃ b off, ad = ⟨b, off, none⟩ ∧ b < w.heap.size ∧ ItAt w b (off + i * 33) x := by
      intro i hi
      obtain ⟨cs, h1, h2⟩ := hr i (by omega)
      obtain ⟨_, hlen, hcell⟩ := World.cells?_some h1
      obtain ⟨xs, k, hk, hxy, _, hxl, hf⟩ := DataW.trod_struct Try.underlying36 h2
      have hxl' : xs.length = 2 := hxl
      obtain ⟨y0, y1, rfl⟩ : ∃ a b, xs = [a, b] := by
        rcases xs with _ | ⟨a, _ | ⟨b, _ | ⟨c, l⟩⟩⟩ <;> simp at hxl'
        exact ⟨a, b, rfl⟩
      have g0 := hf 0 _ rfl
      have g1 := hf 1 _ rfl
      have q34 : Try.prog.cellsOf 34 = 32 := by kernel_rfl
      have q26 : Try.prog.cellsOf 26 = 1 := by kernel_rfl
      change DataW.trod enc Try.prog w 0 _ true k 34 ((cs.drop 0).take (Try.prog.cellsOf 34)) = some y0 at g0
      change DataW.trod enc Try.prog w 0 _ true k 26 ((cs.drop 32).take (Try.prog.cellsOf 26)) = some y1 at g1
      rw [q34, List.drop_zero] at g0
      rw [q26] at g1
      have hD : D i = .agg [y0.1, y1.1] := (Prod.mk.inj hxy).1
      have hmem : ∀ q ∈ (D i).weights Try.prog 36, q ≤ reachBytes := fun q hq => by
        refine hx q ?_
        rw [hd]
        simp only [DataW.weights, Try.underlying22]
        exact List.mem_cons.2 (.inr (List.mem_append.2 (.inl (mem_weightsAll hq (List.mem_map.2 ⟨i, List.mem_range.2 hi, rfl⟩)))))
      rw [hD] at hmem
      simp only [DataW.weights, Try.underlying36, List.map, DataW.weightsEach, List.mem_append] at hmem
      obtain ⟨nm, hnl, hnm⟩ := view_hash g0
      obtain ⟨da, dn, dc, ds, hds, hdr, hdc, hdl⟩ := view_hashes g1 (fun q hq => hmem q (.inr (.inl hq)))
      obtain ⟨b, off, spot⟩ := ad
      have hspot : spot = none := hsp (by omega)
      subst hspot
      rw [Addr.add_lit] at h1
      have hra := range_of_cells h1
      have hcs : cs = U nm ++ [.slice da dn dc] := by
        rw [← hnm, ← hds]
        rw [List.take_of_length_le (l := cs.drop 32) (by simp; omega)]
        simp
      rw [hcs] at hra
      refine ⟨⟨nm, ds, da, dn, dc⟩, b, off, rfl, ?_, hnl, hra, hdr, hdc, hdl⟩
      have e0 := hra 0 _ (by rw [List.getElem?_append_left (by rw [U_length]; omega)]; exact U_get nm 0 (by omega))
      have := World.block_lt_of_cell? w _ e0
      simpa using this
    obtain ⟨G, hG⟩ := choose_lt (p := fun i x => ∃ b off, ad = ⟨b, off, none⟩ ∧ b < w.heap.size ∧ ItAt w b (off + i * 33) x) each
    refine ⟨(List.range len).map G, ⟨by simp, fun hp => ?_⟩, hl, hm⟩
    obtain ⟨b, off, e1, e2, _⟩ := hG 0 hp
    refine ⟨b, off, by rw [e1], e2, fun i x hi => ?_⟩
    have hlt : i < len := by
      have := (List.getElem?_eq_some_iff.1 hi).1
      simpa using this
    have e : G i = x := by simpa [List.getElem?_map, List.getElem?_range hlt] using hi
    subst e
    obtain ⟨b', off', f1, _, f3⟩ := hG i hlt
    rw [e1] at f1
    cases f1
    exact f3
end
end Go.Proofs.Ytijkpkcopjkhkaa.Oct

/- Layer 12 (deps): the reference: its comparisons, whatever their order. -/
namespace Go.Proofs.Ytijkpkcopjkhkaa.Oct
open Go.RowKit
set_option linter.unusedSimpArgs false

theorem below_drew' {B : Nat} (w : World) : Below B w w.drew := ⟨rfl, rfl, rfl, Nat.le_refl _, fun _ _ => rfl⟩
set_option maxRecDepth 100000 in
set_option maxHeartbeats 2000000 in
theorem named_region {Q : Exit → Act → World → Prop} {x1 x2 x4 x6 x7 x8 x9 x10 x11 x12 x13 x14 x15 x16 x17 x18 : Value} {ds : List Deferred} {A : World} {g off n c hb i : Nat} {x h : Hs} {r : Bool}
    (hx : x.length = 32) (hh : h.length = 32) (q1 : (i : Int) < (n : Int)) (heq : ∀ W, (Op.equalIn 10000 34 (.agg (U x).toArray) (.agg (U h).toArray)).run Try.prog W = .ok r W) (hS : A.drew.rangeAt g (off + i * 33) (U x) ∧ A.drew.rangeAt hb 0 (U h))
    (hQ : Q .normal { tmps := #[.slice (some ⟨g, off, none⟩) n c, x1, x2, .pointer (some ⟨hb, 0, none⟩), x4, .int .i64 (i : Int), x6, x7, x8, x9, x10, x11, .slice (some ⟨g, off, none⟩) n c, .int .i64 (i : Int), .pointer (some ⟨g, off + i * 33, none⟩), .pointer (some ⟨g, off + i * 33, none⟩), .agg (U x).toArray, .agg (U h).toArray, .bool r], defers := ds } A.drew) :
    (Code.region 4 #[{ dst := some 12, op := Op.move (Operand.tmp 0), type := 22, pos := "ref.go:34", after := #[], guard := none }, { dst := some 13, op := Op.move (Operand.tmp 5), type := 3, pos := "ref.go:34", after := #[], guard := none }, { dst := some 14, op := Op.indexAddr 22 (Operand.tmp 12) (Operand.tmp 13), type := 0, pos := "ref.go:34", after := #[{ on := 0, ground := Ground.data }, { on := 1, ground := Ground.data }], guard := none }, { dst := some 15, op := Op.fieldAddr 36 (Operand.tmp 14) 0, type := 0, pos := "ref.go:34", after := #[{ on := 2, ground := Ground.data }], guard := none }, { dst := some 16, op := Op.load 34 (Operand.tmp 15), type := 34, pos := "ref.go:34", after := #[{ on := 3, ground := Ground.data }], guard := none }, { dst := some 17, op := Op.load 34 (Operand.tmp 3), type := 34, pos := "ref.go:34", after := #[], guard := none }, { dst := some 18, op := Op.binOp BinOp.eql 34 (Operand.tmp 16) (Operand.tmp 17) 34, type := 4, pos := "ref.go:34", after := #[{ on := 4, ground := Ground.data }, { on := 5, ground := Ground.data }], guard := none }] true).wp Try.prog Q { tmps := #[.slice (some ⟨g, off, none⟩) n c, x1, x2, .pointer (some ⟨hb, 0, none⟩), x4, .int .i64 (i : Int), x6, x7, x8, x9, x10, x11, x12, x13, x14, x15, x16, x17, x18], defers := ds } A := by
  refine Code.wp_mono (Q := fun x a' w' => match x with | .normal => Q .normal a' w' | _ => False) (by intro x a' w' h; cases x <;> first | exact h | exact h.elim) ?_
  obtain ⟨S, hSd⟩ : ∃ S : World → Prop, S = fun W => W.rangeAt g (off + i * 33) (U x) ∧ W.rangeAt hb 0 (U h) := ⟨_, rfl⟩
  refine wp_region_held (S := S) (by kernel_rfl) ?_
  have hS' : S A.drew := by rw [hSd]; exact hS
  clear hS
  change wpAnyH Try.prog .any _ _ S 7 (Array.replicate 7 false) _ A.drew
  refine wpAnyH_take (i := 0) (oi := { dst := some 12, op := Op.move (Operand.tmp 0), type := 22, pos := "ref.go:34", after := #[], guard := none }) (v := .slice (some ⟨g, off, none⟩) n c) rfl (by kernel_rfl) (by kernel_rfl) (by kernel_rfl) (fun _ _ _ h => h.elim) (Or.inl ⟨by rfl, ?y0⟩) hS' ?_
  case y0 =>
    intro W hW
    rw [hSd] at hW; obtain ⟨s1, s2⟩ := hW
    go_simp
  simp only [Act.put, List.setIfInBounds_toArray, List.set_cons_zero, List.set_cons_succ]
  refine wpAnyH_take (i := 1) (oi := { dst := some 13, op := Op.move (Operand.tmp 5), type := 3, pos := "ref.go:34", after := #[], guard := none }) (v := .int .i64 (i : Int)) rfl (by kernel_rfl) (by kernel_rfl) (by kernel_rfl) (fun _ _ _ h => h.elim) (Or.inl ⟨by rfl, ?y1⟩) hS' ?_
  case y1 =>
    intro W hW
    rw [hSd] at hW; obtain ⟨s1, s2⟩ := hW
    go_simp
  simp only [Act.put, List.setIfInBounds_toArray, List.set_cons_zero, List.set_cons_succ]
  refine wpAnyH_take (i := 2) (oi := { dst := some 14, op := Op.indexAddr 22 (Operand.tmp 12) (Operand.tmp 13), type := 0, pos := "ref.go:34", after := #[{ on := 0, ground := Ground.data }, { on := 1, ground := Ground.data }], guard := none }) (v := .pointer (some ⟨g, off + i * 33, none⟩)) rfl (by kernel_rfl) (by kernel_rfl) (by kernel_rfl) (fun _ _ _ h => h.elim) (Or.inl ⟨by rfl, ?y2⟩) hS' ?_
  case y2 =>
    intro W hW
    rw [hSd] at hW; obtain ⟨s1, s2⟩ := hW
    go_simp
  simp only [Act.put, List.setIfInBounds_toArray, List.set_cons_zero, List.set_cons_succ]
  refine wpAnyH_take (i := 3) (oi := { dst := some 15, op := Op.fieldAddr 36 (Operand.tmp 14) 0, type := 0, pos := "ref.go:34", after := #[{ on := 2, ground := Ground.data }], guard := none }) (v := .pointer (some ⟨g, off + i * 33, none⟩)) rfl (by kernel_rfl) (by kernel_rfl) (by kernel_rfl) (fun _ _ _ h => h.elim) (Or.inl ⟨by rfl, ?y3⟩) hS' ?_
  case y3 =>
    intro W hW
    rw [hSd] at hW; obtain ⟨s1, s2⟩ := hW
    go_simp
  simp only [Act.put, List.setIfInBounds_toArray, List.set_cons_zero, List.set_cons_succ]
  refine wpAnyH_take (i := 4) (oi := { dst := some 16, op := Op.load 34 (Operand.tmp 15), type := 34, pos := "ref.go:34", after := #[{ on := 3, ground := Ground.data }], guard := none }) (v := .agg (U x).toArray) rfl (by kernel_rfl) (by kernel_rfl) (by kernel_rfl) (fun _ _ _ h => h.elim) (yieldsIf_load_mid (by rfl) _ _ rfl _ _ rfl (U x) _ (fun W hW => by rw [hSd] at hW; obtain ⟨s1, s2⟩ := hW; exact s1) Try.underlying34 rfl (info34 x hx)) hS' ?_
  simp only [Act.put, List.setIfInBounds_toArray, List.set_cons_zero, List.set_cons_succ]
  refine wpAnyH_take (i := 5) (oi := { dst := some 17, op := Op.load 34 (Operand.tmp 3), type := 34, pos := "ref.go:34", after := #[], guard := none }) (v := .agg (U h).toArray) rfl (by kernel_rfl) (by kernel_rfl) (by kernel_rfl) (fun _ _ _ h => h.elim) (yieldsIf_load_mid (by rfl) _ _ rfl _ _ rfl (U h) _ (fun W hW => by rw [hSd] at hW; obtain ⟨s1, s2⟩ := hW; exact s2) Try.underlying34 rfl (info34 h hh)) hS' ?_
  simp only [Act.put, List.setIfInBounds_toArray, List.set_cons_zero, List.set_cons_succ]
  refine wpAnyH_take (i := 6) (oi := { dst := some 18, op := Op.binOp BinOp.eql 34 (Operand.tmp 16) (Operand.tmp 17) 34, type := 4, pos := "ref.go:34", after := #[{ on := 4, ground := Ground.data }, { on := 5, ground := Ground.data }], guard := none }) (v := .bool r) rfl (by kernel_rfl) (by kernel_rfl) (by kernel_rfl) (fun _ _ _ h => h.elim) (Or.inl ⟨by rfl, ?y6⟩) hS' ?_
  case y6 =>
    intro W hW
    rw [hSd] at hW; obtain ⟨s1, s2⟩ := hW
    go_simp
  simp only [Act.put, List.setIfInBounds_toArray, List.set_cons_zero, List.set_cons_succ]
  refine wpAnyH_done (by kernel_rfl) ?_ _
  exact hQ
set_option maxRecDepth 100000 in
set_option maxHeartbeats 2000000 in
theorem rneeds_region {Q : Exit → Act → World → Prop} {x1 x2 x3 x4 x5 x9 x10 x11 x12 x13 x14 x15 x16 x17 x18 x19 x20 x21 x22 x23 x24 x25 x26 x27 x28 x29 x30 x31 x32 x33 x34 x35 x36 x37 x38 x39 x40 x41 x42 x43 x44 x45 x46 x47 x48 x49 x50 x51 x52 x53 x54 x55 x56 x57 x58 x59 x60 x61 x62 x63 x64 x65 x66 x67 : Value} {ds : List Deferred} {A : World} {g off n c g2 off2 n2 c2 i j : Nat} {x h : Hs} {r : Bool}
    (hx : x.length = 32) (hh : h.length = 32) (q1 : (i : Int) < (n : Int)) (q2 : (j : Int) < (n2 : Int)) (heq : ∀ W, (Op.equalIn 10000 34 (.agg (U x).toArray) (.agg (U h).toArray)).run Try.prog W = .ok r W) (hS : A.drew.rangeAt g (off + i * 33) (U x) ∧ A.drew.rangeAt g2 (off2 + j * 32) (U h))
    (hQ : Q .normal { tmps := #[.slice (some ⟨g, off, none⟩) n c, x1, x2, x3, x4, x5, .slice (some ⟨g2, off2, none⟩) n2 c2, .int .i64 (j : Int), .int .i64 (i : Int), x9, x10, x11, x12, x13, x14, x15, x16, x17, x18, x19, x20, x21, x22, x23, x24, x25, x26, x27, .slice (some ⟨g, off, none⟩) n c, .int .i64 (i : Int), .pointer (some ⟨g, off + i * 33, none⟩), .pointer (some ⟨g, off + i * 33, none⟩), .agg (U x).toArray, .slice (some ⟨g2, off2, none⟩) n2 c2, .int .i64 (j : Int), .pointer (some ⟨g2, off2 + j * 32, none⟩), .agg (U h).toArray, .bool (!r), x38, x39, x40, x41, x42, x43, x44, x45, x46, x47, x48, x49, x50, x51, x52, x53, x54, x55, x56, x57, x58, x59, x60, x61, x62, x63, x64, x65, x66, x67], defers := ds } A.drew) :
    (Code.region 11 #[{ dst := some 28, op := Op.move (Operand.tmp 0), type := 22, pos := "ref.go:80", after := #[], guard := none }, { dst := some 29, op := Op.move (Operand.tmp 8), type := 3, pos := "ref.go:80", after := #[], guard := none }, { dst := some 30, op := Op.indexAddr 22 (Operand.tmp 28) (Operand.tmp 29), type := 0, pos := "ref.go:80", after := #[{ on := 0, ground := Ground.data }, { on := 1, ground := Ground.data }], guard := none }, { dst := some 31, op := Op.fieldAddr 36 (Operand.tmp 30) 0, type := 0, pos := "ref.go:80", after := #[{ on := 2, ground := Ground.data }], guard := none }, { dst := some 32, op := Op.load 34 (Operand.tmp 31), type := 34, pos := "ref.go:80", after := #[{ on := 3, ground := Ground.data }], guard := none }, { dst := some 33, op := Op.move (Operand.tmp 6), type := 26, pos := "ref.go:80", after := #[], guard := none }, { dst := some 34, op := Op.move (Operand.tmp 7), type := 3, pos := "ref.go:80", after := #[], guard := none }, { dst := some 35, op := Op.indexAddr 26 (Operand.tmp 33) (Operand.tmp 34), type := 0, pos := "ref.go:80", after := #[{ on := 5, ground := Ground.data }, { on := 6, ground := Ground.data }], guard := none }, { dst := some 36, op := Op.load 34 (Operand.tmp 35), type := 34, pos := "ref.go:80", after := #[{ on := 7, ground := Ground.data }], guard := none }, { dst := some 37, op := Op.binOp BinOp.neq 34 (Operand.tmp 32) (Operand.tmp 36) 34, type := 4, pos := "ref.go:80", after := #[{ on := 4, ground := Ground.data }, { on := 8, ground := Ground.data }], guard := none }] true).wp Try.prog Q { tmps := #[.slice (some ⟨g, off, none⟩) n c, x1, x2, x3, x4, x5, .slice (some ⟨g2, off2, none⟩) n2 c2, .int .i64 (j : Int), .int .i64 (i : Int), x9, x10, x11, x12, x13, x14, x15, x16, x17, x18, x19, x20, x21, x22, x23, x24, x25, x26, x27, x28, x29, x30, x31, x32, x33, x34, x35, x36, x37, x38, x39, x40, x41, x42, x43, x44, x45, x46, x47, x48, x49, x50, x51, x52, x53, x54, x55, x56, x57, x58, x59, x60, x61, x62, x63, x64, x65, x66, x67], defers := ds } A := by
  refine Code.wp_mono (Q := fun x a' w' => match x with | .normal => Q .normal a' w' | _ => False) (by intro x a' w' h; cases x <;> first | exact h | exact h.elim) ?_
  obtain ⟨S, hSd⟩ : ∃ S : World → Prop, S = fun W => W.rangeAt g (off + i * 33) (U x) ∧ W.rangeAt g2 (off2 + j * 32) (U h) := ⟨_, rfl⟩
  refine wp_region_held (S := S) (by kernel_rfl) ?_
  have hS' : S A.drew := by rw [hSd]; exact hS
  clear hS
  change wpAnyH Try.prog .any _ _ S 10 (Array.replicate 10 false) _ A.drew
  refine wpAnyH_take (i := 0) (oi := { dst := some 28, op := Op.move (Operand.tmp 0), type := 22, pos := "ref.go:80", after := #[], guard := none }) (v := .slice (some ⟨g, off, none⟩) n c) rfl (by kernel_rfl) (by kernel_rfl) (by kernel_rfl) (fun _ _ _ h => h.elim) (Or.inl ⟨by rfl, ?y0⟩) hS' ?_
  case y0 =>
    intro W hW
    rw [hSd] at hW; obtain ⟨s1, s2⟩ := hW
    go_simp
  simp only [Act.put, List.setIfInBounds_toArray, List.set_cons_zero, List.set_cons_succ]
  refine wpAnyH_take (i := 1) (oi := { dst := some 29, op := Op.move (Operand.tmp 8), type := 3, pos := "ref.go:80", after := #[], guard := none }) (v := .int .i64 (i : Int)) rfl (by kernel_rfl) (by kernel_rfl) (by kernel_rfl) (fun _ _ _ h => h.elim) (Or.inl ⟨by rfl, ?y1⟩) hS' ?_
  case y1 =>
    intro W hW
    rw [hSd] at hW; obtain ⟨s1, s2⟩ := hW
    go_simp
  simp only [Act.put, List.setIfInBounds_toArray, List.set_cons_zero, List.set_cons_succ]
  refine wpAnyH_take (i := 2) (oi := { dst := some 30, op := Op.indexAddr 22 (Operand.tmp 28) (Operand.tmp 29), type := 0, pos := "ref.go:80", after := #[{ on := 0, ground := Ground.data }, { on := 1, ground := Ground.data }], guard := none }) (v := .pointer (some ⟨g, off + i * 33, none⟩)) rfl (by kernel_rfl) (by kernel_rfl) (by kernel_rfl) (fun _ _ _ h => h.elim) (Or.inl ⟨by rfl, ?y2⟩) hS' ?_
  case y2 =>
    intro W hW
    rw [hSd] at hW; obtain ⟨s1, s2⟩ := hW
    go_simp
  simp only [Act.put, List.setIfInBounds_toArray, List.set_cons_zero, List.set_cons_succ]
  refine wpAnyH_take (i := 3) (oi := { dst := some 31, op := Op.fieldAddr 36 (Operand.tmp 30) 0, type := 0, pos := "ref.go:80", after := #[{ on := 2, ground := Ground.data }], guard := none }) (v := .pointer (some ⟨g, off + i * 33, none⟩)) rfl (by kernel_rfl) (by kernel_rfl) (by kernel_rfl) (fun _ _ _ h => h.elim) (Or.inl ⟨by rfl, ?y3⟩) hS' ?_
  case y3 =>
    intro W hW
    rw [hSd] at hW; obtain ⟨s1, s2⟩ := hW
    go_simp
  simp only [Act.put, List.setIfInBounds_toArray, List.set_cons_zero, List.set_cons_succ]
  refine wpAnyH_take (i := 4) (oi := { dst := some 32, op := Op.load 34 (Operand.tmp 31), type := 34, pos := "ref.go:80", after := #[{ on := 3, ground := Ground.data }], guard := none }) (v := .agg (U x).toArray) rfl (by kernel_rfl) (by kernel_rfl) (by kernel_rfl) (fun _ _ _ h => h.elim) (yieldsIf_load_mid (by rfl) _ _ rfl _ _ rfl (U x) _ (fun W hW => by rw [hSd] at hW; obtain ⟨s1, s2⟩ := hW; exact s1) Try.underlying34 rfl (info34 x hx)) hS' ?_
  simp only [Act.put, List.setIfInBounds_toArray, List.set_cons_zero, List.set_cons_succ]
  refine wpAnyH_take (i := 5) (oi := { dst := some 33, op := Op.move (Operand.tmp 6), type := 26, pos := "ref.go:80", after := #[], guard := none }) (v := .slice (some ⟨g2, off2, none⟩) n2 c2) rfl (by kernel_rfl) (by kernel_rfl) (by kernel_rfl) (fun _ _ _ h => h.elim) (Or.inl ⟨by rfl, ?y5⟩) hS' ?_
  case y5 =>
    intro W hW
    rw [hSd] at hW; obtain ⟨s1, s2⟩ := hW
    go_simp
  simp only [Act.put, List.setIfInBounds_toArray, List.set_cons_zero, List.set_cons_succ]
  refine wpAnyH_take (i := 6) (oi := { dst := some 34, op := Op.move (Operand.tmp 7), type := 3, pos := "ref.go:80", after := #[], guard := none }) (v := .int .i64 (j : Int)) rfl (by kernel_rfl) (by kernel_rfl) (by kernel_rfl) (fun _ _ _ h => h.elim) (Or.inl ⟨by rfl, ?y6⟩) hS' ?_
  case y6 =>
    intro W hW
    rw [hSd] at hW; obtain ⟨s1, s2⟩ := hW
    go_simp
  simp only [Act.put, List.setIfInBounds_toArray, List.set_cons_zero, List.set_cons_succ]
  refine wpAnyH_take (i := 7) (oi := { dst := some 35, op := Op.indexAddr 26 (Operand.tmp 33) (Operand.tmp 34), type := 0, pos := "ref.go:80", after := #[{ on := 5, ground := Ground.data }, { on := 6, ground := Ground.data }], guard := none }) (v := .pointer (some ⟨g2, off2 + j * 32, none⟩)) rfl (by kernel_rfl) (by kernel_rfl) (by kernel_rfl) (fun _ _ _ h => h.elim) (Or.inl ⟨by rfl, ?y7⟩) hS' ?_
  case y7 =>
    intro W hW
    rw [hSd] at hW; obtain ⟨s1, s2⟩ := hW
    go_simp
  simp only [Act.put, List.setIfInBounds_toArray, List.set_cons_zero, List.set_cons_succ]
  refine wpAnyH_take (i := 8) (oi := { dst := some 36, op := Op.load 34 (Operand.tmp 35), type := 34, pos := "ref.go:80", after := #[{ on := 7, ground := Ground.data }], guard := none }) (v := .agg (U h).toArray) rfl (by kernel_rfl) (by kernel_rfl) (by kernel_rfl) (fun _ _ _ h => h.elim) (yieldsIf_load_mid (by rfl) _ _ rfl _ _ rfl (U h) _ (fun W hW => by rw [hSd] at hW; obtain ⟨s1, s2⟩ := hW; exact s2) Try.underlying34 rfl (info34 h hh)) hS' ?_
  simp only [Act.put, List.setIfInBounds_toArray, List.set_cons_zero, List.set_cons_succ]
  refine wpAnyH_take (i := 9) (oi := { dst := some 37, op := Op.binOp BinOp.neq 34 (Operand.tmp 32) (Operand.tmp 36) 34, type := 4, pos := "ref.go:80", after := #[{ on := 4, ground := Ground.data }, { on := 8, ground := Ground.data }], guard := none }) (v := .bool (!r)) rfl (by kernel_rfl) (by kernel_rfl) (by kernel_rfl) (fun _ _ _ h => h.elim) (Or.inl ⟨by rfl, ?y9⟩) hS' ?_
  case y9 =>
    intro W hW
    rw [hSd] at hW; obtain ⟨s1, s2⟩ := hW
    go_simp
  simp only [Act.put, List.setIfInBounds_toArray, List.set_cons_zero, List.set_cons_succ]
  refine wpAnyH_done (by kernel_rfl) ?_ _
  exact hQ
set_option maxRecDepth 100000 in
set_option maxHeartbeats 2000000 in
theorem twice_region {Q : Exit → Act → World → Prop} {x1 x2 x4 x5 x6 x7 x8 x9 x10 x11 x12 x13 x14 x15 x16 x17 x18 : Value} {ds : List Deferred} {A : World} {g off n c i : Nat} {x : Hs} {B : Bool}
    (hx : x.length = 32) (q1 : (i : Int) < (n : Int)) (q2 : (n : Int) ≤ (c : Int)) (HK : Hid (A.rangeAt g (off + i * 33) (U x) ∧ g < A.heap.size)) (hc : Hid (∀ V, Below A.heap.size A V → Calls Try.prog 34 #[.slice (some ⟨g, off, none⟩) i c, .agg (U x).toArray] V fun e V1 => e = .returned (.bool B) ∧ Hid (Below V.heap.size V V1)))
    (hQ : ∀ (V : World), Below A.heap.size A V → Q .normal { tmps := #[.slice (some ⟨g, off, none⟩) n c, x1, x2, .int .i64 (i : Int), x4, x5, x6, x7, x8, x9, .slice (some ⟨g, off, none⟩) n c, .int .i64 (i : Int), .slice (some ⟨g, off, none⟩) i c, .slice (some ⟨g, off, none⟩) n c, .int .i64 (i : Int), .pointer (some ⟨g, off + i * 33, none⟩), .pointer (some ⟨g, off + i * 33, none⟩), .agg (U x).toArray, .bool B], defers := ds } V) :
    (Code.region 4 #[{ dst := some 10, op := Op.move (Operand.tmp 0), type := 22, pos := "ref.go:59", after := #[], guard := none }, { dst := some 11, op := Op.move (Operand.tmp 3), type := 3, pos := "ref.go:59", after := #[], guard := none }, { dst := some 12, op := Op.slice 22 (Operand.tmp 10) none (some (Operand.tmp 11)) none, type := 22, pos := "ref.go:59", after := #[{ on := 0, ground := Ground.data }, { on := 1, ground := Ground.data }], guard := none }, { dst := some 13, op := Op.move (Operand.tmp 0), type := 22, pos := "ref.go:59", after := #[], guard := none }, { dst := some 14, op := Op.move (Operand.tmp 3), type := 3, pos := "ref.go:59", after := #[], guard := none }, { dst := some 15, op := Op.indexAddr 22 (Operand.tmp 13) (Operand.tmp 14), type := 0, pos := "ref.go:59", after := #[{ on := 3, ground := Ground.data }, { on := 4, ground := Ground.data }], guard := none }, { dst := some 16, op := Op.fieldAddr 36 (Operand.tmp 15) 0, type := 0, pos := "ref.go:59", after := #[{ on := 5, ground := Ground.data }], guard := none }, { dst := some 17, op := Op.load 34 (Operand.tmp 16), type := 34, pos := "ref.go:59", after := #[{ on := 6, ground := Ground.data }], guard := none }, { dst := some 18, op := Op.call { callee := Callee.value (Operand.func 34), args := #[Operand.tmp 12, Operand.tmp 17], argTypes := #[22, 34] }, type := 4, pos := "ref.go:59", after := #[{ on := 2, ground := Ground.data }, { on := 7, ground := Ground.data }], guard := none }] true).wp Try.prog Q { tmps := #[.slice (some ⟨g, off, none⟩) n c, x1, x2, .int .i64 (i : Int), x4, x5, x6, x7, x8, x9, x10, x11, x12, x13, x14, x15, x16, x17, x18], defers := ds } A := by
  refine Code.wp_mono (Q := fun x a' w' => match x with | .normal => Q .normal a' w' | _ => False) (by intro x a' w' h; cases x <;> first | exact h | exact h.elim) ?_
  refine wp_region_held (S := fun V => Below A.heap.size A V) (by kernel_rfl) ?_
  have hS0 : Hid (Below A.heap.size A A.drew) := below_drew' A
  change wpAnyH Try.prog .any _ _ (fun V => Below A.heap.size A V) 9 (Array.replicate 9 false) _ A.drew
  refine wpAnyH_take (i := 0) (oi := { dst := some 10, op := Op.move (Operand.tmp 0), type := 22, pos := "ref.go:59", after := #[], guard := none }) (v := .slice (some ⟨g, off, none⟩) n c) rfl (by kernel_rfl) (by kernel_rfl) (by kernel_rfl) (fun _ _ _ h => h.elim) (Or.inl ⟨by rfl, ?y0⟩) hS0.out ?_
  case y0 =>
    intro V hV
    go_simp
  simp only [Act.put, List.setIfInBounds_toArray, List.set_cons_zero, List.set_cons_succ]
  refine wpAnyH_take (i := 1) (oi := { dst := some 11, op := Op.move (Operand.tmp 3), type := 3, pos := "ref.go:59", after := #[], guard := none }) (v := .int .i64 (i : Int)) rfl (by kernel_rfl) (by kernel_rfl) (by kernel_rfl) (fun _ _ _ h => h.elim) (Or.inl ⟨by rfl, ?y1⟩) hS0.out ?_
  case y1 =>
    intro V hV
    go_simp
  simp only [Act.put, List.setIfInBounds_toArray, List.set_cons_zero, List.set_cons_succ]
  refine wpAnyH_take (i := 2) (oi := { dst := some 12, op := Op.slice 22 (Operand.tmp 10) none (some (Operand.tmp 11)) none, type := 22, pos := "ref.go:59", after := #[{ on := 0, ground := Ground.data }, { on := 1, ground := Ground.data }], guard := none }) (v := .slice (some ⟨g, off, none⟩) i c) rfl (by kernel_rfl) (by kernel_rfl) (by kernel_rfl) (fun _ _ _ h => h.elim) (Or.inl ⟨by rfl, ?y2⟩) hS0.out ?_
  case y2 =>
    intro V hV
    go_simp
    exact fun h => absurd h (by omega)
  simp only [Act.put, List.setIfInBounds_toArray, List.set_cons_zero, List.set_cons_succ]
  refine wpAnyH_take (i := 3) (oi := { dst := some 13, op := Op.move (Operand.tmp 0), type := 22, pos := "ref.go:59", after := #[], guard := none }) (v := .slice (some ⟨g, off, none⟩) n c) rfl (by kernel_rfl) (by kernel_rfl) (by kernel_rfl) (fun _ _ _ h => h.elim) (Or.inl ⟨by rfl, ?y3⟩) hS0.out ?_
  case y3 =>
    intro V hV
    go_simp
  simp only [Act.put, List.setIfInBounds_toArray, List.set_cons_zero, List.set_cons_succ]
  refine wpAnyH_take (i := 4) (oi := { dst := some 14, op := Op.move (Operand.tmp 3), type := 3, pos := "ref.go:59", after := #[], guard := none }) (v := .int .i64 (i : Int)) rfl (by kernel_rfl) (by kernel_rfl) (by kernel_rfl) (fun _ _ _ h => h.elim) (Or.inl ⟨by rfl, ?y4⟩) hS0.out ?_
  case y4 =>
    intro V hV
    go_simp
  simp only [Act.put, List.setIfInBounds_toArray, List.set_cons_zero, List.set_cons_succ]
  refine wpAnyH_take (i := 5) (oi := { dst := some 15, op := Op.indexAddr 22 (Operand.tmp 13) (Operand.tmp 14), type := 0, pos := "ref.go:59", after := #[{ on := 3, ground := Ground.data }, { on := 4, ground := Ground.data }], guard := none }) (v := .pointer (some ⟨g, off + i * 33, none⟩)) rfl (by kernel_rfl) (by kernel_rfl) (by kernel_rfl) (fun _ _ _ h => h.elim) (Or.inl ⟨by rfl, ?y5⟩) hS0.out ?_
  case y5 =>
    intro V hV
    go_simp
  simp only [Act.put, List.setIfInBounds_toArray, List.set_cons_zero, List.set_cons_succ]
  refine wpAnyH_take (i := 6) (oi := { dst := some 16, op := Op.fieldAddr 36 (Operand.tmp 15) 0, type := 0, pos := "ref.go:59", after := #[{ on := 5, ground := Ground.data }], guard := none }) (v := .pointer (some ⟨g, off + i * 33, none⟩)) rfl (by kernel_rfl) (by kernel_rfl) (by kernel_rfl) (fun _ _ _ h => h.elim) (Or.inl ⟨by rfl, ?y6⟩) hS0.out ?_
  case y6 =>
    intro V hV
    go_simp
  simp only [Act.put, List.setIfInBounds_toArray, List.set_cons_zero, List.set_cons_succ]
  refine wpAnyH_take (i := 7) (oi := { dst := some 17, op := Op.load 34 (Operand.tmp 16), type := 34, pos := "ref.go:59", after := #[{ on := 6, ground := Ground.data }], guard := none }) (v := .agg (U x).toArray) rfl (by kernel_rfl) (by kernel_rfl) (by kernel_rfl) (fun _ _ _ h => h.elim) (yieldsIf_load_mid (by rfl) _ _ rfl _ _ rfl (U x) _ (fun V hV => rangeAt_same (HK.out.1) ((show Below A.heap.size A V from hV).block _ (HK.out.2))) Try.underlying34 rfl (info34 x hx)) hS0.out ?_
  simp only [Act.put, List.setIfInBounds_toArray, List.set_cons_zero, List.set_cons_succ]
  refine wpAnyH_ready (rs := [8]) (by kernel_rfl) (by simp) (AllReadyH.cons (i := 8) (o := { dst := some 18, op := Op.call { callee := Callee.value (Operand.func 34), args := #[Operand.tmp 12, Operand.tmp 17], argTypes := #[22, 34] }, type := 4, pos := "ref.go:59", after := #[{ on := 2, ground := Ground.data }, { on := 7, ground := Ground.data }], guard := none }) rfl ?_ AllReadyH.nil)
  intro K1 hK1
  rw [if_pos (by rfl)]
  have HC1 := hc.out A.drew hS0.out
  go_wp2_with fail
  refine HC1.mono ?_
  rintro e V1 ⟨rfl, HB1⟩
  dsimp only
  clear HC1
  have hS1 : Hid (Below A.heap.size A V1) := hS0.out.trans (HB1.out.mono hS0.out.size)
  refine hK1.out _ _ hS1.out ?_
  clear hK1
  intro _
  try simp only [Act.put, List.setIfInBounds_toArray, List.set_cons_zero, List.set_cons_succ]
  refine wpAnyH_done (by kernel_rfl) ?_ _
  exact hQ V1 hS1.out
end Go.Proofs.Ytijkpkcopjkhkaa.Oct

/- Layer 12 (deps): the reference: named, twice. -/
namespace Go.Proofs.Ytijkpkcopjkhkaa.Oct
open Go.RowKit

theorem Its.take {w : World} {a : Option Addr} {len : Nat} {l : List It} (h : Its w a len l) {i : Nat} (hi : i ≤ len) : Its w a i (l.take i) := by
  refine ⟨by rw [List.length_take, h.1]; omega, fun hp => ?_⟩
  obtain ⟨b, off, e, h1, h2⟩ := h.2 (by omega)
  refine ⟨b, off, e, h1, fun j x hj => h2 j x ?_⟩
  rw [List.getElem?_take] at hj
  split at hj
  · exact hj
  · cases hj

set_option maxRecDepth 100000 in
set_option maxHeartbeats 1000000 in
theorem named_is (w : World) (a : Option Addr) (n c : Nat) (l : List It) (h : Hs) (hi : Its w a n l) (hl : h.length = 32) (hn : n ≤ 100000) (B : Bool) (hB : B = true ↔ h ∈ l.map (·.name)) :
    Calls Try.prog 34 #[.slice a n c, .agg (U h).toArray] w fun e w' => e = .returned (.bool B) ∧ Hid (Below w.heap.size w w') := by
  have HBB : Hid (B = true ↔ h ∈ l.map (·.name)) := hB
  clear hB
  have HR : Hid (Its w a n l) := hi
  have q0 : (n : Int) ≤ 100000 := by omega
  have HL : Hid (h.length = 32) := hl
  have hu := Try.underlying34
  have hi34 := info34 h hl
  have h1 := U_one h
  have hul : (U h).length = 32 := by rw [U_length, hl]
  clear hi hn hl
  go_enter Try.func34, Try.ntmps34
  go_wp2
  obtain ⟨W, hW⟩ : ∃ W, w.alloc (.cells (U h).toArray 34) = W := ⟨_, rfl⟩
  have HB0 : Hid (Below w.heap.size w W) := by show Below _ _ _; rw [← hW]; exact (Below.refl _ w).alloc (Nat.le_refl _) _
  have HK0 : Hid (W.rangeAt w.heap.size 0 (U h) ∧ w.heap.size < W.heap.size) := by rw [← hW]; exact ⟨new34 w h, by simp⟩
  rw [hW]
  clear hW
  go_loopw [5] (fun u wr => ∃ i : Nat, u = .int .i64 (i : Int) ∧ Hid (i ≤ n ∧ ∀ j x, j < i → l[j]? = some x → x.name ≠ h) ∧ Hid (Below W.heap.size W wr)) (fun u _ => n - (intOf u).toNat)
  case atStart => exact ⟨0, rfl, ⟨Nat.zero_le _, fun j x hj => absurd hj (by omega)⟩, Below.refl _ _⟩
  case round =>
    obtain ⟨i, rfl, HI, HB⟩ := hrel
    by_cases hin : i < n
    · obtain ⟨x, hx⟩ : ∃ x, l[i]? = some x := ⟨_, List.getElem?_eq_getElem (by rw [HR.out.1]; exact hin)⟩
      obtain ⟨g, off, rfl, hg, hel⟩ := HR.out.2 (by omega)
      have HX : Hid (i < n ∧ l[i]? = some x ∧ x.name.length = 32) := ⟨hin, hx, (hel i x hx).1⟩
      have HRA : Hid (wr.rangeAt g (off + i * 33) (U x.name) ∧ wr.rangeAt w.heap.size 0 (U h)) := ⟨rangeAt_same (hel i x hx).nm ((HB.out.block g (Nat.lt_of_lt_of_le hg HB0.out.size)).trans (HB0.out.block g hg)), rangeAt_same HK0.out.1 (HB.out.block _ HK0.out.2)⟩
      have q1 : (i : Int) < (n : Int) := by omega
      have heq := eqH x.name h HX.out.2.2 HL.out
      clear hel hx hin
      cases hd : decide (x.name = h) with
      | true =>
        have HD : Hid (x.name = h) := by show x.name = h; simpa using hd
        rw [hd] at heq
        clear hd
        go_wp2
        refine named_region HX.out.2.2 HL.out (by omega) heq HRA.out ?_
        go_wp2
        go_ret
        refine ⟨?_, HB0.out.trans (HB.out.drew.mono HB0.out.size)⟩
        have : h ∈ l.map (·.name) := List.mem_map.2 ⟨x, List.mem_of_getElem? HX.out.2.1, HD.out⟩
        rw [HBB.out.2 this]
        rfl
      | false =>
        have HD : Hid (x.name ≠ h) := by show x.name ≠ h; simpa using hd
        rw [hd] at heq
        clear hd
        go_wp2
        refine named_region HX.out.2.2 HL.out (by omega) heq HRA.out ?_
        go_wp2
        go_roundw
        case rel =>
          refine ⟨i + 1, by simp, ⟨HX.out.1, fun j y hj hy => ?_⟩, HB.out.drew⟩
          by_cases hji : j = i
          · subst hji; rw [HX.out.2.1] at hy; cases hy; exact HD.out
          · exact HI.out.2 j y (by omega) hy
        case measure => have := HX.out; simp [intOf]; omega
    · have q1 : ¬ (i : Int) < (n : Int) := by omega
      go_wp2
      go_ret
      refine ⟨?_, HB0.out.trans (HB.out.mono HB0.out.size)⟩
      have : h ∉ l.map (·.name) := by
        intro hm
        obtain ⟨x, hx, e⟩ := List.mem_map.1 hm
        obtain ⟨j, hj, rfl⟩ := List.mem_iff_getElem.1 hx
        exact HI.out.2 j _ (by rw [HR.out.1] at hj; omega) (List.getElem?_eq_getElem hj) e
      rw [show B = false by cases B with | false => rfl | true => exact absurd (HBB.out.1 rfl) this]
      rfl
theorem nodup_take {l : List It} {i : Nat} {x : It} (hx : l[i]? = some x) : ((l.take (i + 1)).map (·.name)).Nodup ↔ ((l.take i).map (·.name)).Nodup ∧ x.name ∉ (l.take i).map (·.name) := by
  rw [List.take_add_one, hx, List.map_append]
  simp only [Option.toList, List.map_cons, List.map_nil]
  rw [List.nodup_append]
  constructor
  · rintro ⟨h1, _, h3⟩
    exact ⟨h1, fun h => h3 _ h _ (by simp) rfl⟩
  · rintro ⟨h1, h2⟩
    refine ⟨h1, by simp, fun a ha b hb e => ?_⟩
    simp at hb
    subst hb
    exact h2 (e ▸ ha)
theorem nodup_of_take {l : List It} (i : Nat) (h : (l.map (·.name)).Nodup) : ((l.take i).map (·.name)).Nodup := by
  rw [List.map_take]
  exact h.sublist (List.take_sublist _ _)

def TwP (w : World) (l : List It) (e : Ending) (w' : World) : Prop := ∃ b : Bool, e = .returned (.bool b) ∧ Hid (b = false ↔ (l.map (·.name)).Nodup) ∧ Hid (Below w.heap.size w w')
set_option maxRecDepth 100000 in
set_option maxHeartbeats 1000000 in
theorem twice_is (w : World) (a : Option Addr) (n c : Nat) (l : List It) (hi : Its w a n l) (hc : n ≤ c) (hn : n ≤ 100000) :
    Calls Try.prog 26 #[.slice a n c] w (TwP w l) := by
  have HR : Hid (Its w a n l ∧ n ≤ 100000 ∧ l.length = n) := ⟨hi, hn, hi.1⟩
  have q0 : (n : Int) ≤ 100000 := by omega
  have q00 : (n : Int) ≤ (c : Int) := by omega
  clear hi hn hc
  go_enter Try.func26, Try.ntmps26
  go_wp2
  go_loopw [3] (fun u wr => ∃ i : Nat, u = .int .i64 (i : Int) ∧ Hid (i ≤ n ∧ ((l.take i).map (·.name)).Nodup) ∧ Hid (Below w.heap.size w wr)) (fun u _ => n - (intOf u).toNat)
  case atStart => exact ⟨0, rfl, ⟨Nat.zero_le _, by simp⟩, Below.refl _ _⟩
  case round =>
    obtain ⟨i, rfl, HI, HB⟩ := hrel
    by_cases hin : i < n
    · obtain ⟨x, hx⟩ : ∃ x, l[i]? = some x := ⟨_, List.getElem?_eq_getElem (by rw [HR.out.2.2]; exact hin)⟩
      obtain ⟨g, off, rfl, hg, hel⟩ := HR.out.1.2 (by omega)
      have HX : Hid (i < n ∧ l[i]? = some x ∧ x.name.length = 32) := ⟨hin, hx, (hel i x hx).1⟩
      have HRA : Hid (wr.rangeAt g (off + i * 33) (U x.name) ∧ g < wr.heap.size) := ⟨rangeAt_same (hel i x hx).nm (HB.out.block g hg), Nat.lt_of_lt_of_le hg HB.out.size⟩
      have q1 : (i : Int) < (n : Int) := by omega
      clear hel hx hin hg
      obtain ⟨B, hB⟩ : ∃ B : Bool, decide (x.name ∈ (l.take i).map (·.name)) = B := ⟨_, rfl⟩
      have HBB : Hid (decide (x.name ∈ (l.take i).map (·.name)) = B) := hB
      have HC : Hid (∀ V, Below wr.heap.size wr V → Calls Try.prog 34 #[.slice (some ⟨g, off, none⟩) i c, .agg (U x.name).toArray] V fun e V1 => e = .returned (.bool B) ∧ Hid (Below V.heap.size V V1)) := fun V hV => by
        have := named_is V (some ⟨g, off, none⟩) i c (l.take i) x.name ((HR.out.1.take (by have := HX.out.1; omega)).below (HB.out.trans (hV.mono HB.out.size))) HX.out.2.2 (by have := HX.out.1; have := HR.out.2.1; omega) B (by rw [← HBB.out, decide_eq_true_iff])
        exact this
      clear hB
      go_wp2
      refine twice_region HX.out.2.2 q1 q00 HRA HC ?_
      intro V hV
      have HV : Hid (Below w.heap.size w V) := HB.out.trans (hV.mono HB.out.size)
      clear hV
      cases B with
      | true =>
        go_wp2
        go_ret
        refine ⟨true, rfl, ⟨(fun h => by cases h), fun h => ?_⟩, HV⟩
        have := (nodup_take HX.out.2.1).1 (nodup_of_take (i + 1) h)
        have h2 := HBB.out
        rw [decide_eq_true_iff] at h2
        exact absurd h2 this.2
      | false =>
        go_wp2
        go_roundw
        case rel =>
          refine ⟨i + 1, by simp, ⟨HX.out.1, (nodup_take HX.out.2.1).2 ⟨HI.out.2, ?_⟩⟩, HV⟩
          have h2 := HBB.out
          rw [decide_eq_false_iff_not] at h2
          exact h2
        case measure => have := HX.out; simp [intOf]; omega
    · have q1 : ¬ (i : Int) < (n : Int) := by omega
      go_wp2
      go_ret
      refine ⟨false, rfl, ⟨fun _ => ?_, fun _ => rfl⟩, HB⟩
      have := HI.out.2
      rw [List.take_of_length_le (by have := HR.out.2.2; omega)] at this
      exact this
end Go.Proofs.Ytijkpkcopjkhkaa.Oct

/- Layer 12 (deps): the reference: which hash is below which, whatever the order of it. -/
namespace Go.Proofs.Ytijkpkcopjkhkaa.Oct
open Go.RowKit
set_option linter.unusedSimpArgs false

theorem conv_hash (V : World) (b : Nat) (x : Hs) (hx : x.length = 32) (h : V.rangeAt b 0 (U x)) : (convert 64 9 (Value.slice (some ⟨b, 0, none⟩) 32 32)).run Try.prog V = .ok (.string ⟨x.toArray⟩) V := by
  have := run_convert_bytes_back (P := Try.prog) V 64 9 5 ⟨b, 0, none⟩ 32 x Try.underlying64 Try.underlying5 Try.underlying9 (fun j hj => by
    rw [Addr.add_lit]
    exact h j _ (U_get x j hj))
  rw [hx] at this
  exact this
set_option maxRecDepth 100000 in
set_option maxHeartbeats 2000000 in
theorem rbelow_region {Q : Exit → Act → World → Prop} {x0 x1 x4 x5 x6 x7 x8 x9 : Value} {ds : List Deferred} {A : World} {ba bb : Nat} {x h : Hs}
    (hx : x.length = 32) (hh : h.length = 32) (HK : Hid (A.rangeAt ba 0 (U x) ∧ A.rangeAt bb 0 (U h) ∧ ba < A.heap.size ∧ bb < A.heap.size))
    (hQ : Q .normal { tmps := #[x0, x1, .pointer (some ⟨ba, 0, none⟩), .pointer (some ⟨bb, 0, none⟩), .bool (Op.bytesLess x h), .slice (some ⟨ba, 0, none⟩) 32 32, .string ⟨x.toArray⟩, .slice (some ⟨bb, 0, none⟩) 32 32, .string ⟨h.toArray⟩, .bool (Op.bytesLess x h)], defers := ds } A.drew) :
    (Code.region 1 #[{ dst := some 5, op := Op.slice 34 (Operand.tmp 2) none none none, type := 64, pos := "ref.go:29", after := #[], guard := none }, { dst := some 6, op := Op.convert 64 9 (Operand.tmp 5), type := 9, pos := "ref.go:29", after := #[{ on := 0, ground := Ground.data }], guard := none }, { dst := some 7, op := Op.slice 34 (Operand.tmp 3) none none none, type := 64, pos := "ref.go:29", after := #[], guard := none }, { dst := some 8, op := Op.convert 64 9 (Operand.tmp 7), type := 9, pos := "ref.go:29", after := #[{ on := 2, ground := Ground.data }], guard := none }, { dst := some 9, op := Op.binOp BinOp.lss 9 (Operand.tmp 6) (Operand.tmp 8) 9, type := 4, pos := "ref.go:29", after := #[{ on := 1, ground := Ground.data }, { on := 3, ground := Ground.data }], guard := none }, { dst := some 4, op := Op.assign (Operand.tmp 9), type := 4, pos := "ref.go:29", after := #[{ on := 4, ground := Ground.data }, { on := 0, ground := Ground.phase }, { on := 1, ground := Ground.phase }, { on := 2, ground := Ground.phase }, { on := 3, ground := Ground.phase }, { on := 4, ground := Ground.phase }], guard := none }] true).wp Try.prog Q { tmps := #[x0, x1, .pointer (some ⟨ba, 0, none⟩), .pointer (some ⟨bb, 0, none⟩), x4, x5, x6, x7, x8, x9], defers := ds } A := by
  refine Code.wp_mono (Q := fun x a' w' => match x with | .normal => Q .normal a' w' | _ => False) (by intro x a' w' h; cases x <;> first | exact h | exact h.elim) ?_
  refine wp_region_held (S := fun V => Below A.heap.size A V) (by kernel_rfl) ?_
  have hS0 : Hid (Below A.heap.size A A.drew) := below_drew' A
  change wpAnyH Try.prog .any _ _ (fun V => Below A.heap.size A V) 6 (Array.replicate 6 false) _ A.drew
  refine wpAnyH_take (i := 0) (oi := { dst := some 5, op := Op.slice 34 (Operand.tmp 2) none none none, type := 64, pos := "ref.go:29", after := #[], guard := none }) (v := .slice (some ⟨ba, 0, none⟩) 32 32) rfl (by kernel_rfl) (by kernel_rfl) (by kernel_rfl) (fun _ _ _ h => h.elim) (Or.inl ⟨by rfl, ?y0⟩) hS0.out ?_
  case y0 =>
    intro V hV
    go_simp
  simp only [Act.put, List.setIfInBounds_toArray, List.set_cons_zero, List.set_cons_succ]
  refine wpAnyH_take (i := 1) (oi := { dst := some 6, op := Op.convert 64 9 (Operand.tmp 5), type := 9, pos := "ref.go:29", after := #[{ on := 0, ground := Ground.data }], guard := none }) (v := .string ⟨x.toArray⟩) rfl (by kernel_rfl) (by kernel_rfl) (by kernel_rfl) (fun _ _ _ h => h.elim) (Or.inl ⟨by rfl, ?y1⟩) hS0.out ?_
  case y1 =>
    intro V hV
    have q := conv_hash V ba x hx (rangeAt_same HK.out.1 ((show Below A.heap.size A V from hV).block _ HK.out.2.2.1))
    go_simp
  simp only [Act.put, List.setIfInBounds_toArray, List.set_cons_zero, List.set_cons_succ]
  refine wpAnyH_take (i := 2) (oi := { dst := some 7, op := Op.slice 34 (Operand.tmp 3) none none none, type := 64, pos := "ref.go:29", after := #[], guard := none }) (v := .slice (some ⟨bb, 0, none⟩) 32 32) rfl (by kernel_rfl) (by kernel_rfl) (by kernel_rfl) (fun _ _ _ h => h.elim) (Or.inl ⟨by rfl, ?y2⟩) hS0.out ?_
  case y2 =>
    intro V hV
    go_simp
  simp only [Act.put, List.setIfInBounds_toArray, List.set_cons_zero, List.set_cons_succ]
  refine wpAnyH_take (i := 3) (oi := { dst := some 8, op := Op.convert 64 9 (Operand.tmp 7), type := 9, pos := "ref.go:29", after := #[{ on := 2, ground := Ground.data }], guard := none }) (v := .string ⟨h.toArray⟩) rfl (by kernel_rfl) (by kernel_rfl) (by kernel_rfl) (fun _ _ _ h => h.elim) (Or.inl ⟨by rfl, ?y3⟩) hS0.out ?_
  case y3 =>
    intro V hV
    have q := conv_hash V bb h hh (rangeAt_same HK.out.2.1 ((show Below A.heap.size A V from hV).block _ HK.out.2.2.2))
    go_simp
  simp only [Act.put, List.setIfInBounds_toArray, List.set_cons_zero, List.set_cons_succ]
  refine wpAnyH_take (i := 4) (oi := { dst := some 9, op := Op.binOp BinOp.lss 9 (Operand.tmp 6) (Operand.tmp 8) 9, type := 4, pos := "ref.go:29", after := #[{ on := 1, ground := Ground.data }, { on := 3, ground := Ground.data }], guard := none }) (v := .bool (Op.bytesLess x h)) rfl (by kernel_rfl) (by kernel_rfl) (by kernel_rfl) (fun _ _ _ h => h.elim) (Or.inl ⟨by rfl, ?y4⟩) hS0.out ?_
  case y4 =>
    intro V hV
    go_simp
  simp only [Act.put, List.setIfInBounds_toArray, List.set_cons_zero, List.set_cons_succ]
  refine wpAnyH_take (i := 5) (oi := { dst := some 4, op := Op.assign (Operand.tmp 9), type := 4, pos := "ref.go:29", after := #[{ on := 4, ground := Ground.data }, { on := 0, ground := Ground.phase }, { on := 1, ground := Ground.phase }, { on := 2, ground := Ground.phase }, { on := 3, ground := Ground.phase }, { on := 4, ground := Ground.phase }], guard := none }) (v := .bool (Op.bytesLess x h)) rfl (by kernel_rfl) (by kernel_rfl) (by kernel_rfl) (fun _ _ _ h => h.elim) (Or.inl ⟨by rfl, ?y5⟩) hS0.out ?_
  case y5 =>
    intro V hV
    go_simp
  simp only [Act.put, List.setIfInBounds_toArray, List.set_cons_zero, List.set_cons_succ]
  refine wpAnyH_done (by kernel_rfl) ?_ _
  exact hQ
end Go.Proofs.Ytijkpkcopjkhkaa.Oct

/- Layer 12 (deps): the reference: which hash is below which. -/
namespace Go.Proofs.Ytijkpkcopjkhkaa.Oct
open Go.RowKit

set_option maxRecDepth 100000 in
theorem rbelow_is (w : World) (x h : Hs) (hx : x.length = 32) (hh : h.length = 32) :
    Calls Try.prog 28 #[.agg (U x).toArray, .agg (U h).toArray] w fun e w' => e = .returned (.bool (Op.bytesLess x h)) ∧ Hid (Below w.heap.size w w') := by
  have HL : Hid (x.length = 32 ∧ h.length = 32) := ⟨hx, hh⟩
  have hu := Try.underlying34
  have hi1 := info34 x hx
  have hi2 := info34 h hh
  have h1 := U_one x
  have h2 := U_one h
  have hul : (U x).length = 32 := by rw [U_length, hx]
  have hul2 : (U h).length = 32 := by rw [U_length, hh]
  have HB : Hid (Below w.heap.size w ((w.alloc (.cells (U x).toArray 34)).alloc (.cells (U h).toArray 34)) ∧ ((w.alloc (.cells (U x).toArray 34)).alloc (.cells (U h).toArray 34)).rangeAt w.heap.size 0 (U x) ∧ ((w.alloc (.cells (U x).toArray 34)).alloc (.cells (U h).toArray 34)).rangeAt (w.heap.size + 1) 0 (U h)) := by
    refine ⟨((Below.refl _ w).alloc (Nat.le_refl _) _).alloc (by simp) _, rangeAt_same (new34 w x) (Below.heap_alloc _ _ _ (by simp)), ?_⟩
    have := new34 (w.alloc (.cells (U x).toArray 34)) h
    simpa using this
  clear hx hh
  go_enter Try.func28, Try.ntmps28
  go_wp2
  refine rbelow_region HL.out.1 HL.out.2 ⟨HB.out.2.1, HB.out.2.2, by simp; omega, by simp⟩ ?_
  go_wp2
  go_ret
  exact ⟨rfl, HB.out.1.drew⟩
end Go.Proofs.Ytijkpkcopjkhkaa.Oct
