/-
  Blocks of memory told as lists of cells: what stores, loads and whole arrays do to them. Of no program.
  Layer 7 (tree): a slice of pairs that is read; 'sort.Search' of a test that rises; 'place' of a node.
  Layer 7 (tree): what is asked of a map that has one leaf, or nothing.
  Trees of pairs, all of whose leaves are equally deep: what they hold, as one list; pairs put in and taken out. Of no program.
  Trees all of whose leaves are equally deep: their pairs as one list; nodes cut, joined, and mended. Of no program.
  Trees: where a key stands in a node's kids; what becomes of the list. Of no program.
  Rows of cells that are read, and 'append' to a row that is full or the call's own. Of no program.
  Layer 7 (tree): a tree in memory; 'get', 'depth', 'last'.
  Layer 7 (tree): 'part' and 'spliced' of pairs and of nodes, whatever is put in.
  Layer 7 (tree): 'part' and 'spliced' of pairs.
  Layer 7 (tree): a pair put into a leaf that has room, and into nothing.
-/
import Derived.WalkKit
import Derived.Below
import Derived.Deep.MidRow
import Derived.Deep.Draws
import Derived.Laws.CopyOwn
import Derived.Test.YtnagknlfboadkaaRows
import Derived.Lib.Strings
import Derived.BigQuiet
import Derived.Laws.Cover1
import Derived.Deep.DeepAppendWide
import Derived.Deep.RegionHeldLaw
import Derived.Laws.AppendOwn
import Derived.Laws.AppendOwnNone
import Derived.ProofKit
import Derived.Deep.LoopGhost
/- Blocks of memory told as lists of cells: what stores, loads and whole arrays do to them. Of no program. -/
namespace Go.Proofs.Ytnagknlfboadkaa.Oct
open Go.RowKit

/-- block b holds just the cells L, none of them frozen -/
def Blk (w : World) (b : Nat) (t : TypeId) (L : List Value) : Prop := w.heap[b]? = some (.cells L.toArray t (0, 0))

section
variable {w w' : World} {b : Nat} {t : TypeId} {L : List Value}
theorem Blk.lt (h : Blk w b t L) : b < w.heap.size := lt_of_block h
theorem Blk.cell (h : Blk w b t L) {i : Nat} {v : Value} (hv : L[i]? = some v) : w.cell? ⟨b, i, none⟩ = some v := by
  rw [cell_of_row w b i _ t (0, 0) h, List.getElem?_toArray]; exact hv
theorem Blk.free (h : Blk w b t L) (i : Nat) : w.frozen? ⟨b, i, none⟩ = false := frozen_of_row w b i _ t h
theorem Blk.drewN (h : Blk w b t L) (n : Nat) : Blk (w.drewN n) b t L := h
theorem Blk.drew (h : Blk w b t L) : Blk w.drew b t L := h
theorem Blk.set (h : Blk w b t L) (i : Nat) (v : Value) : Blk (w.setCell ⟨b, i, none⟩ v) b t (L.set i v) := by
  have := heap_setCell_same w b i _ t v h
  unfold Blk
  rw [this]
  simp
theorem Blk.other (h : Blk w b t L) {a : Addr} (hne : b ≠ a.block) (v : Value) : Blk (w.setCell a v) b t L := by
  unfold Blk; rw [heap_setCell_other w a b v hne]; exact h
theorem Blk.below {B : Nat} (h : Blk w b t L) (hb : Below B w w') (hB : b < B) : Blk w' b t L := (hb.block b hB).trans h
theorem Blk.kept {row : Option Nat} (h : Blk w b t L) (hg : w.grownBy w' row) (hne : some b ≠ row) : Blk w' b t L := (hg.block b h.lt hne).trans h
theorem Blk.new (w : World) (C : Array Value) (t : TypeId) : Blk (w.alloc (.cells C t)) w.heap.size t C.toList := by
  unfold Blk; rw [heap_alloc_new]
theorem Blk.alloc (h : Blk w b t L) (o : Obj) : Blk (w.alloc o) b t L := (Below.heap_alloc w o b h.lt).trans h
theorem Blk.range (h : Blk w b t L) (o n : Nat) : w.rangeAt b o ((L.drop o).take n) := by
  intro j v hj
  rw [List.getElem?_take] at hj
  split at hj
  · rw [List.getElem?_drop] at hj
    exact h.cell hj
  · cases hj
theorem Blk.there (h : Blk w b t L) (o n : Nat) (hn : o + n ≤ L.length) : w.there b o n := by
  intro j hj
  exact ⟨by rw [h.cell (List.getElem?_eq_getElem (by omega))]; rfl, h.free _⟩
end

/-- a row of cells of elements of a type -/
def RowT (w : World) (e : TypeId) (g : Nat) : Prop := ∃ cs fr, w.heap[g]? = some (.cells cs e fr)
theorem RowT.lt {w : World} {e : TypeId} {g : Nat} (h : RowT w e g) : g < w.heap.size := by
  obtain ⟨cs, fr, h⟩ := h
  exact (Array.getElem?_eq_some_iff.1 h).1
theorem RowT.same {w w' : World} {e : TypeId} {g : Nat} (h : RowT w e g) (hs : w'.heap[g]? = w.heap[g]?) : RowT w' e g := by
  obtain ⟨cs, fr, h⟩ := h
  exact ⟨cs, fr, hs.trans h⟩
theorem Blk.row {w : World} {b : Nat} {t : TypeId} {L : List Value} (h : Blk w b t L) : RowT w t b := ⟨_, _, h⟩
theorem grown_setCell (w : World) (b i : Nat) (v : Value) : w.grownBy (w.setCell ⟨b, i, none⟩ v) (some b) :=
  ⟨rfl, rfl, rfl, by simp, fun k _ hne => heap_setCell_other w ⟨b, i, none⟩ k v (fun e => hne (by rw [e]))⟩
theorem grown_tr {w w1 w2 : World} {row : Option Nat} (h : w.grownBy w1 row) (k : w1.grownBy w2 row) : w.grownBy w2 row :=
  ⟨k.os.trans h.os, k.tape.trans h.tape, k.output.trans h.output, Nat.le_trans h.size k.size, fun b hb hne => (k.block b (Nat.lt_of_lt_of_le hb h.size) hne).trans (h.block b hb hne)⟩
theorem grown_drewN (w : World) (n : Nat) (row : Option Nat) : w.grownBy (w.drewN n) row := ⟨rfl, rfl, rfl, Nat.le_refl _, fun _ _ _ => rfl⟩

/-- several cells written one behind the other -/
theorem Blk.setCells {b : Nat} {t : TypeId} : ∀ (vs : List Value) (o : Nat) (w : World) (L : List Value), Blk w b t L → o + vs.length ≤ L.length →
    Blk (w.setCells b o vs) b t (L.take o ++ vs ++ L.drop (o + vs.length)) ∧ w.grownBy (w.setCells b o vs) (some b)
  | [], o, w, L, h, _ => by
    refine ⟨?_, World.grownBy.refl _ _⟩
    simpa [World.setCells] using h
  | v :: vs, o, w, L, h, hl => by
    have ih := Blk.setCells vs (o + 1) (w.setCell ⟨b, o, none⟩ v) (L.set o v) (h.set o v) (by simp at *; omega)
    simp only [World.setCells]
    refine ⟨?_, grown_tr (grown_setCell w b o v) ih.2⟩
    have e : (L.set o v).take (o + 1) ++ vs ++ (L.set o v).drop (o + 1 + vs.length) = L.take o ++ (v :: vs) ++ L.drop (o + (v :: vs).length) := by
      have hlt : o < L.length := by simp at hl; omega
      have e0 : L.set o v = L.take o ++ v :: L.drop (o + 1) := by rw [List.set_eq_take_append_cons_drop, if_pos hlt]
      have e1 : (L.set o v).take (o + 1) = L.take o ++ [v] := by
        rw [e0, List.take_append, List.length_take, Nat.min_eq_left (by omega), show o + 1 - o = 1 by omega, List.take_of_length_le (by simp; omega)]; rfl
      rw [e1, List.drop_set_of_lt (by omega), show o + 1 + vs.length = o + (v :: vs).length by simp; omega]
      simp
    rw [← e]
    exact ih.1

/-- a whole array stored into a block -/
theorem wpList_store_blk {P : Program} {ops : Array Oper} {rest : List Oper} {op : Oper} {a : Act} {w : World} {Q : Exit → Act → World → Prop} (hgd : op.guard = none) (ty : TypeId) (x y : Operand) (ho : op.op = .store ty x y)
    (b o : Nat) (t : TypeId) (L : List Value) (cells : List Value) (hx : a.eval x = .pointer (some ⟨b, o, none⟩)) (hy : a.eval y = .agg cells.toArray)
    (hb : Blk w b t L) (hl : o + cells.length ≤ L.length) (hi : (P.info? ty).map (·.size) = some cells.length) (h1 : ∀ v ∈ cells, v.oneCell' = true)
    (h : ∀ w', Hid (Blk w' b t (L.take o ++ cells ++ L.drop (o + cells.length))) → Hid (w.grownBy w' (some b)) → wpList P ops Q rest (a.put op.dst undef) w') : wpList P ops Q (op :: rest) a w := by
  refine wpList_store_mid hgd ty x y ho b o cells.toArray hx hy (by simpa using hb.there o cells.length hl) (by simpa using hi) (all_oneCell_toArray h1) ?_
  have e := Blk.setCells cells o w L hb hl
  exact h _ e.1 e.2

end Go.Proofs.Ytnagknlfboadkaa.Oct

/- Layer 7 (tree): a slice of pairs that is read; 'sort.Search' of a test that rises; 'place' of a node. -/
namespace Go.Proofs.Ytnagknlfboadkaa.Oct
open Go.RowKit

abbrev Pr := ByteArray × ByteArray
/-- a pair's cells -/
def pc (x : Pr) : List Value := [.string x.1, .string x.2]
/-- a slice of pairs that can be read -/
def RdP (w : World) (a : Option Addr) (n : Nat) (ps : List Pr) : Prop :=
  ps.length = n ∧ (0 < n → ∃ g off, a = some ⟨g, off, none⟩ ∧ RowT w 40 g ∧ ∀ k x, ps[k]? = some x → w.cell? ⟨g, off + k * 2, none⟩ = some (.string x.1) ∧ w.cell? ⟨g, off + k * 2 + 1, none⟩ = some (.string x.2))
theorem RdP.below {w w' : World} {B : Nat} {a : Option Addr} {n : Nat} {ps : List Pr} (h : RdP w a n ps) (hb : Below B w w') (hB : w.heap.size ≤ B) : RdP w' a n ps := by
  refine ⟨h.1, fun hp => ?_⟩
  obtain ⟨g, off, e, h1, h2⟩ := h.2 hp
  have hgl := h1.lt
  refine ⟨g, off, e, h1.same (hb.block g (by omega)), fun k x hk => ?_⟩
  have := h2 k x hk
  exact ⟨(hb.cell (p := ⟨g, _, none⟩) (by show g < B; omega)).trans this.1, (hb.cell (p := ⟨g, _, none⟩) (by show g < B; omega)).trans this.2⟩
theorem RdP.kept {w w' : World} {B : Nat} {a : Option Addr} {n : Nat} {ps : List Pr} (h : RdP w a n ps) (hb : Below B w w') (hg : ∀ ad, a = some ad → ad.block < B) : RdP w' a n ps := by
  refine ⟨h.1, fun hp => ?_⟩
  obtain ⟨g, off, e, h1, h2⟩ := h.2 hp
  have hgB : g < B := hg _ e
  refine ⟨g, off, e, h1.same (hb.block g hgB), fun k x hk => ?_⟩
  have := h2 k x hk
  exact ⟨(hb.cell (p := ⟨g, _, none⟩) hgB).trans this.1, (hb.cell (p := ⟨g, _, none⟩) hgB).trans this.2⟩

/-- not less, as texts are compared -/
def geS (a b : ByteArray) : Bool := !(Op.bytesLess a.toList b.toList)

set_option maxRecDepth 100000 in
theorem place1_is (w : World) (b bk g off : Nat) (k : Nat) (n cap : Nat) (kv : Value) (key x : ByteArray) (hk : k < n)
    (h1 : w.cell? ⟨b, 0, none⟩ = some kv) (nd : Nat) (hkv : kv = .pointer (some ⟨nd, 0, none⟩)) (h2 : w.cell? ⟨bk, 0, none⟩ = some (.string key))
    (h3 : w.cell? ⟨nd, 0, none⟩ = some (.slice (some ⟨g, off, none⟩) n cap)) (h4 : w.cell? ⟨g, off + k * 2, none⟩ = some (.string x)) :
    Calls Try.prog 47 #[.int .i64 (k : Int), .pointer (some ⟨b, 0, none⟩), .pointer (some ⟨bk, 0, none⟩)] w fun e w' => e = .returned (.bool (geS x key)) ∧ Below w.heap.size w w' := by
  subst hkv
  have q1 : (k : Int) < (n : Int) := by omega
  go_enter Try.func47, Try.ntmps47
  go_wp2
  go_region
  go_wp2
  go_ret
  exact ⟨rfl, (Below.refl _ w).drew⟩

set_option maxRecDepth 100000 in
theorem search_is (w : World) (n : Nat) (p : Nat → Bool) (hm : ∀ i j, i ≤ j → j < n → p i = true → p j = true) (hn : n ≤ 140737488355328) (b bk : Nat)
    (hf : ∀ i, i < n → ∀ W, Below w.heap.size w W → Calls Try.prog 47 #[.int .i64 (i : Int), .pointer (some ⟨b, 0, none⟩), .pointer (some ⟨bk, 0, none⟩)] W fun e W' => e = .returned (.bool (p i)) ∧ Below W.heap.size W W') :
    Calls Try.prog 46 #[.int .i64 (n : Int), .func (.func 47) #[] #[.pointer (some ⟨b, 0, none⟩), .pointer (some ⟨bk, 0, none⟩)]] w fun e w' => ∃ k : Nat, e = .returned (.int .i64 (k : Int)) ∧ Hid (k ≤ n ∧ (∀ i, i < k → p i = false) ∧ (∀ i, k ≤ i → i < n → p i = true)) ∧ Hid (Below w.heap.size w w') := by
  have HM : Hid (∀ i j, i ≤ j → j < n → p i = true → p j = true) := hm
  have HF : Hid (∀ i, i < n → ∀ W, Below w.heap.size w W → Calls Try.prog 47 #[.int .i64 (i : Int), .pointer (some ⟨b, 0, none⟩), .pointer (some ⟨bk, 0, none⟩)] W fun e W' => e = .returned (.bool (p i)) ∧ Below W.heap.size W W') := hf
  have HN : Hid (n ≤ 140737488355328) := hn
  clear hm hf hn
  go_enter Try.func46, Try.ntmps46
  go_wp2
  go_loopw [5, 6] (fun u v wr => ∃ i j : Nat, u = .int .i64 (i : Int) ∧ v = .int .i64 (j : Int) ∧ Hid (i ≤ j ∧ j ≤ n) ∧ Hid (∀ k, k < i → p k = false) ∧ Hid (∀ k, j ≤ k → k < n → p k = true) ∧ Hid (Below w.heap.size w wr)) (fun u v _ => (intOf v - intOf u).toNat)
  case atStart => exact ⟨0, n, rfl, rfl, ⟨Nat.zero_le _, Nat.le_refl _⟩, fun k hk => by omega, fun k h1 h2 => by omega, Below.refl _ _⟩
  case round =>
    obtain ⟨i, j, rfl, rfl, HIJ, HA, HB, HW⟩ := hrel
    by_cases hlt : i < j
    · have q1 : (i : Int) < (j : Int) := by omega
      obtain ⟨h, hh⟩ : ∃ h, (i + j) / 2 = h := ⟨_, rfl⟩
      have HH : Hid (i ≤ h ∧ h < j) := by show _ ∧ _; omega
      have hj : j ≤ 140737488355328 := Nat.le_trans HIJ.out.2 HN.out
      have q2 : IntKind.i64.wrap ((i : Int) + (j : Int)) = ((i + j : Nat) : Int) := by rw [IntKind.wrap_i64]; omega
      have q3 : IntKind.u64.wrap ((i + j : Nat) : Int) = ((i + j : Nat) : Int) := by rw [IntKind.wrap_u64]; omega
      have q4 : ((i : Int) + (j : Int)) / 2 = (h : Int) := by omega
      have q5 : (h : Int) ≤ 140737488355328 := by have := HH.out; omega
      clear hlt
      go_wp2_with fail
      refine (HF.out h (Nat.lt_of_lt_of_le HH.out.2 HIJ.out.2) wr HW.out).mono ?_
      rintro e w1 ⟨rfl, hB1⟩
      have HB1 : Hid (Below w.heap.size w w1) := HW.out.trans (hB1.mono HW.out.size)
      clear hB1
      cases hp : p h with
      | true =>
        have HP : Hid (p h = true) := hp
        clear hp
        go_wp2
        go_roundw
        case rel => exact ⟨i, h, rfl, rfl, ⟨HH.out.1, by have := HH.out; have := HIJ.out; omega⟩, HA, fun k h1 h2 => HM.out h k h1 h2 HP.out, HB1⟩
        case measure => have := HH.out; simp [intOf]; omega
      | false =>
        have HP : Hid (p h = false) := hp
        clear hp
        go_wp2
        go_roundw
        case rel =>
          refine ⟨h + 1, j, by simp, rfl, ⟨HH.out.2, HIJ.out.2⟩, fun k hk => ?_, HB, HB1⟩
          cases hpk : p k with
          | false => rfl
          | true =>
            have := HM.out k h (by omega) (Nat.lt_of_lt_of_le HH.out.2 HIJ.out.2) hpk
            rw [HP.out] at this; cases this
        case measure => have := HH.out; simp [intOf]; omega
    · have q1 : ¬ (i : Int) < (j : Int) := by omega
      have hij : j = i := by have := HIJ.out; omega
      subst hij
      go_wp2
      go_ret
      exact ⟨j, rfl, ⟨HIJ.out.2, HA.out, HB.out⟩, HW⟩

/-- where a key stands among pairs, or would -/
def AtP (ps : List Pr) (key : ByteArray) (k : Nat) : Prop := k ≤ ps.length ∧ (∀ (i : Nat) (x : Pr), i < k → ps[i]? = some x → geS x.1 key = false) ∧ (∀ (i : Nat) (x : Pr), k ≤ i → ps[i]? = some x → geS x.1 key = true)
/-- whether it stands there -/
def isP (ps : List Pr) (key : ByteArray) (k : Nat) : Bool := match ps[k]? with | some x => x.1.toList == key.toList | none => false
/-- what is not less stays so -/
def Mono (ps : List Pr) (key : ByteArray) : Prop := ∀ (i j : Nat) (x y : Pr), i ≤ j → ps[i]? = some x → ps[j]? = some y → geS x.1 key = true → geS y.1 key = true
/-- a node whose pairs can be read -/
structure Nd (w : World) (b : Nat) (a : Option Addr) (n cap : Nat) (ps : List Pr) (kv : Value) : Prop where
  blk : Blk w b 67 [.slice a n cap, kv]
  rd : RdP w a n ps
theorem Nd.below {w w' : World} {B b : Nat} {a : Option Addr} {n cap : Nat} {ps : List Pr} {kv : Value} (h : Nd w b a n cap ps kv) (hb : Below B w w') (hB : w.heap.size ≤ B) : Nd w' b a n cap ps kv :=
  ⟨h.blk.below hb (Nat.lt_of_lt_of_le h.blk.lt hB), h.rd.below hb hB⟩

theorem below_drewN {B : Nat} {w w1 : World} (h : Below B w w1) (n : Nat) : Below B w (w1.drewN n) := ⟨h.os, h.tape, h.output, h.size, h.block⟩
def tst (ps : List Pr) (key : ByteArray) (i : Nat) : Bool := match ps[i]? with | some x => geS x.1 key | none => true
theorem search_at (W : World) (b bk nd : Nat) (a : Option Addr) (n cap : Nat) (ps : List Pr) (kv : Value) (key : ByteArray) (h : Nd W nd a n cap ps kv) (hm : Mono ps key) (hn : n ≤ 140737488355328)
    (hb : W.cell? ⟨b, 0, none⟩ = some (.pointer (some ⟨nd, 0, none⟩))) (hk : W.cell? ⟨bk, 0, none⟩ = some (.string key)) :
    Calls Try.prog 46 #[.int .i64 (n : Int), .func (.func 47) #[] #[.pointer (some ⟨b, 0, none⟩), .pointer (some ⟨bk, 0, none⟩)]] W fun e w' => ∃ k : Nat, e = .returned (.int .i64 (k : Int)) ∧ Hid (AtP ps key k) ∧ Hid (Below W.heap.size W w') := by
  have hl := h.rd.1
  refine (search_is W n (tst ps key) ?_ hn b bk ?_).mono ?_
  · intro i j hij hj hi
    have h1 : i < ps.length := by omega
    have h2 : j < ps.length := by omega
    simp only [tst, List.getElem?_eq_getElem h1, List.getElem?_eq_getElem h2] at hi ⊢
    exact hm i j _ _ hij (List.getElem?_eq_getElem h1) (List.getElem?_eq_getElem h2) hi
  · intro i hi W1 hB
    obtain ⟨g, off, rfl, hg, hc⟩ := h.rd.2 (by omega)
    have h1 : i < ps.length := by omega
    have hx := hc i _ (List.getElem?_eq_getElem h1)
    have e : tst ps key i = geS ps[i].1 key := by simp only [tst, List.getElem?_eq_getElem h1]
    rw [e]
    have lb := World.block_lt_of_cell? W _ hb
    have lk := World.block_lt_of_cell? W _ hk
    exact place1_is W1 b bk g off i n cap _ key ps[i].1 hi ((hB.cell (p := ⟨b, 0, none⟩) lb).trans hb) nd rfl ((hB.cell (p := ⟨bk, 0, none⟩) lk).trans hk)
      ((h.below hB (Nat.le_refl _)).blk.cell (i := 0) rfl) ((hB.cell (p := ⟨g, _, none⟩) hg.lt).trans hx.1)
  · rintro e w' ⟨k, rfl, hk1, hB⟩
    refine ⟨k, rfl, ⟨by rw [hl]; exact hk1.out.1, fun i x hi hx => ?_, fun i x hi hx => ?_⟩, hB⟩
    · have := hk1.out.2.1 i hi
      simpa only [tst, hx] using this
    · have hlt : i < n := by rw [← hl]; exact (List.getElem?_eq_some_iff.1 hx).1
      have := hk1.out.2.2 i hi hlt
      simpa only [tst, hx] using this

set_option maxRecDepth 100000 in
theorem place_is (w : World) (nd : Nat) (a : Option Addr) (n cap : Nat) (ps : List Pr) (kv : Value) (key : ByteArray) (h : Nd w nd a n cap ps kv) (hm : Mono ps key) (hn : n ≤ 140737488355328) :
    Calls Try.prog 38 #[.pointer (some ⟨nd, 0, none⟩), .string key] w fun e w' => ∃ k : Nat, e = .returned (.tuple #[.int .i64 (k : Int), .bool (isP ps key k)]) ∧ Hid (AtP ps key k) ∧ Hid (Below w.heap.size w w') := by
  have HM : Hid (Mono ps key) := hm
  have HN : Hid (n ≤ 140737488355328) := hn
  have HD : Hid (Nd w nd a n cap ps kv) := h
  have c0 := h.blk.cell (i := 0) rfl
  have hl := h.blk.lt
  have HB2 : Hid (Below w.heap.size w ((w.alloc (Obj.cells #[Value.pointer (some { block := nd, off := 0 })] 46)).alloc (Obj.cells #[Value.string key] 9))) := ((Below.refl _ w).alloc (Nat.le_refl _) _).alloc (by simp) _
  clear hm hn h
  go_enter Try.func38, Try.ntmps38
  go_wp2_with fail
  refine (search_at _ w.heap.size (w.heap.size + 1) nd a n cap ps kv key (HD.out.below HB2.out (Nat.le_refl _)) HM.out HN.out (by go_simp) (by go_simp)).mono ?_
  rintro e w1 ⟨k, rfl, HA, HB1⟩
  have hS : w.heap.size + 2 ≤ w1.heap.size := by have := HB1.out.size; simp at this; omega
  have c1 : w1.cell? ⟨nd, 0, none⟩ = some (.slice a n cap) := (HB1.out.cell (p := ⟨nd, 0, none⟩) (by simp; omega)).trans ((HB2.out.cell (p := ⟨nd, 0, none⟩) hl).trans c0)
  have c2 : w1.cell? ⟨w.heap.size, 0, none⟩ = some (.pointer (some ⟨nd, 0, none⟩)) := (HB1.out.cell (p := ⟨w.heap.size, 0, none⟩) (by simp; omega)).trans (by go_simp)
  have c3 : w1.cell? ⟨w.heap.size + 1, 0, none⟩ = some (.string key) := (HB1.out.cell (p := ⟨w.heap.size + 1, 0, none⟩) (by simp)).trans (by go_simp)
  have HD1 : Hid (Nd w1 nd a n cap ps kv) := (HD.out.below HB2.out (Nat.le_refl _)).below HB1.out (Nat.le_refl _)
  have HW : Hid (Below w.heap.size w w1) := HB2.out.trans (HB1.out.mono (by simp; omega))
  clear HB1 HB2 c0
  by_cases hk : k < n
  · have q1 : (k : Int) < (n : Int) := by omega
    obtain ⟨g, off, rfl, hg, hc⟩ := HD1.out.rd.2 (by omega)
    have hlt : k < ps.length := by rw [HD.out.rd.1]; exact hk
    have hx := (hc k _ (List.getElem?_eq_getElem hlt)).1
    have HI : Hid (isP ps key k = (ps[k].1.toList == key.toList)) := by show _ = _; simp only [isP, List.getElem?_eq_getElem hlt]
    generalize ps[k].1 = x at *
    clear hc hk hlt
    go_wp2
    go_quiet (fail)
    go_wp2
    go_ret2
    exact ⟨k, by rw [HI.out]; rfl, HA, below_drewN HW.out _⟩
  · have q1 : ¬ (k : Int) < (n : Int) := by omega
    have HI : Hid (isP ps key k = false) := by
      show _ = _
      have : ps[k]? = none := by rw [List.getElem?_eq_none_iff, HD.out.rd.1]; omega
      simp only [isP, this]
    go_wp2
    go_quiet (fail)
    go_wp2
    go_ret2
    exact ⟨k, by rw [HI.out]; rfl, HA, below_drewN HW.out _⟩
end Go.Proofs.Ytnagknlfboadkaa.Oct

/- Layer 7 (tree): what is asked of a map that has one leaf, or nothing. -/
namespace Go.Proofs.Ytnagknlfboadkaa.Oct
open Go.RowKit

theorem made_nil (w : World) : Calls Try.prog 22 #[.pointer none] w fun e w' => e = .returned (.bool false) ∧ w = w' := by
  go_enter Try.func22, Try.ntmps22
  go_wp2
  go_ret
  exact ⟨rfl, rfl⟩
theorem made_is (w : World) (m : Nat) (b : Bool) (h : w.cell? ⟨m, 2, none⟩ = some (.bool b)) : Calls Try.prog 22 #[.pointer (some ⟨m, 0, none⟩)] w fun e w' => e = .returned (.bool b) ∧ w = w' := by
  go_enter Try.func22, Try.ntmps22
  go_wp2
  go_ret
  exact ⟨rfl, rfl⟩
theorem leaf_is (w : World) (nd : Nat) (h : w.cell? ⟨nd, 1, none⟩ = some (.slice none 0 0)) : Calls Try.prog 39 #[.pointer (some ⟨nd, 0, none⟩)] w fun e w' => e = .returned (.bool true) ∧ w = w' := by
  go_enter Try.func39, Try.ntmps39
  go_wp2
  go_ret
  exact ⟨rfl, rfl⟩
theorem get_nil (w : World) (key : ByteArray) : Calls Try.prog 30 #[.pointer none, .string key] w fun e w' => e = .returned (.tuple #[.string ⟨#[]⟩, .bool false]) ∧ Below w.heap.size w w' := by
  go_enter Try.func30, Try.ntmps30
  go_wp2
  go_loopw [0] (fun u wr => u = .pointer none ∧ Hid (w = wr)) (fun _ _ => 0)
  case atStart => exact ⟨rfl, rfl⟩
  case round =>
    obtain ⟨rfl, hw⟩ := hrel
    go_wp2
    go_ret2
    exact ⟨rfl, by rw [← hw.out]; exact Below.refl _ _⟩

/-- what a leaf tells of a key -/
def valP (ps : List Pr) (key : ByteArray) (k : Nat) : ByteArray := if isP ps key k = true then (match ps[k]? with | some x => x.2 | none => ⟨#[]⟩) else ⟨#[]⟩
theorem get_leaf (w : World) (nd : Nat) (a : Option Addr) (n cap : Nat) (ps : List Pr) (key : ByteArray) (h : Nd w nd a n cap ps (.slice none 0 0)) (hm : Mono ps key) (hn : n ≤ 140737488355328) :
    Calls Try.prog 30 #[.pointer (some ⟨nd, 0, none⟩), .string key] w fun e w' => ∃ k : Nat, e = .returned (.tuple #[.string (valP ps key k), .bool (isP ps key k)]) ∧ Hid (AtP ps key k) ∧ Hid (Below w.heap.size w w') := by
  have HM : Hid (Mono ps key) := hm
  have HN : Hid (n ≤ 140737488355328) := hn
  have HD : Hid (Nd w nd a n cap ps (.slice none 0 0)) := h
  clear hm hn h
  go_enter Try.func30, Try.ntmps30
  go_wp2
  go_loopw [0] (fun u wr => u = .pointer (some ⟨nd, 0, none⟩) ∧ Hid (w = wr)) (fun _ _ => 0)
  case atStart => exact ⟨rfl, rfl⟩
  case round =>
    obtain ⟨rfl, hw⟩ := hrel
    have HD1 : Hid (Nd wr nd a n cap ps (.slice none 0 0)) := by rw [← hw.out]; exact HD
    go_wp2_with fail
    refine (place_is wr nd a n cap ps _ key HD1.out HM.out HN.out).mono ?_
    rintro e w1 ⟨k, rfl, HA, HB1⟩
    have HD2 : Hid (Nd w1 nd a n cap ps (.slice none 0 0)) := HD1.out.below HB1.out (Nat.le_refl _)
    have HW : Hid (Below w.heap.size w w1) := by rw [hw.out]; exact HB1
    have c0 := HD2.out.blk.cell (i := 0) rfl
    have c1 := HD2.out.blk.cell (i := 1) rfl
    cases hi : isP ps key k with
    | true =>
      obtain ⟨x, hx⟩ : ∃ x, ps[k]? = some x := by
        cases hx : ps[k]? with
        | some x => exact ⟨x, rfl⟩
        | none => simp only [isP, hx] at hi; cases hi
      have hlt : k < n := by rw [← HD.out.rd.1]; exact (List.getElem?_eq_some_iff.1 hx).1
      obtain ⟨g, off, rfl, hg, hc⟩ := HD2.out.rd.2 (by omega)
      have c2 := (hc k x hx).2
      have HV : Hid (valP ps key k = x.2) := by show _ = _; simp only [valP, hi, hx, if_true]
      have HI : Hid (isP ps key k = true) := hi
      have q1 : (k : Int) < (n : Int) := by omega
      generalize x.2 = y at *
      clear hc hi hx hlt
      go_wp2
      go_ret2
      exact ⟨k, by rw [HV.out, HI.out]; rfl, HA, HW⟩
    | false =>
      have HV : Hid (valP ps key k = ⟨#[]⟩) := by show _ = _; simp [valP, hi]
      have HI : Hid (isP ps key k = false) := hi
      clear hi
      go_wp2_with (go_at_call 39; refine (leaf_is w1 nd c1).mono ?_; rintro e w2 ⟨rfl, rfl⟩)
      go_ret2
      exact ⟨k, by rw [HV.out, HI.out]; rfl, HA, HW⟩
theorem depth_leaf (w : World) (nd : Nat) (h : w.cell? ⟨nd, 1, none⟩ = some (.slice none 0 0)) : Calls Try.prog 35 #[.pointer (some ⟨nd, 0, none⟩)] w fun e w' => e = .returned (.int .i64 1) ∧ w = w' := by
  go_enter Try.func35, Try.ntmps35
  go_wp2_with (go_at_call 39; refine (leaf_is w nd h).mono ?_; rintro e w2 ⟨rfl, rfl⟩)
  go_ret
  exact ⟨rfl, rfl⟩

/-- a map -/
def Mp (w : World) (m : Nat) (r : Value) (n : Nat) : Prop := Blk w m 48 [r, .int .i64 (n : Int), .bool true]
theorem len_is (w : World) (m : Nat) (r : Value) (n : Nat) (h : Mp w m r n) : Calls Try.prog 15 #[.pointer (some ⟨m, 0, none⟩)] w fun e w' => e = .returned (.int .i64 (n : Int)) ∧ w = w' := by
  have c2 := h.cell (i := 2) rfl
  have c1 := h.cell (i := 1) rfl
  go_enter Try.func15, Try.ntmps15
  go_wp2_with (go_at_call 22; refine (made_is w m true c2).mono ?_; rintro e w2 ⟨rfl, rfl⟩)
  go_ret
  exact ⟨rfl, rfl⟩
theorem depth_is (w : World) (m nd : Nat) (n : Nat) (h : Mp w m (.pointer (some ⟨nd, 0, none⟩)) n) (hl : w.cell? ⟨nd, 1, none⟩ = some (.slice none 0 0)) : Calls Try.prog 20 #[.pointer (some ⟨m, 0, none⟩)] w fun e w' => e = .returned (.int .i64 1) ∧ w = w' := by
  have c2 := h.cell (i := 2) rfl
  have c0 := h.cell (i := 0) rfl
  go_enter Try.func20, Try.ntmps20
  go_wp2_with (first | (go_at_call 22; refine (made_is w m true c2).mono ?_; rintro e w2 ⟨rfl, rfl⟩) | (go_at_call 35; refine (depth_leaf w nd hl).mono ?_; rintro e w3 ⟨rfl, rfl⟩))
  go_ret
  exact ⟨rfl, rfl⟩
theorem mget_is (w : World) (m nd : Nat) (a : Option Addr) (n cap c : Nat) (ps : List Pr) (key : ByteArray) (hmp : Mp w m (.pointer (some ⟨nd, 0, none⟩)) c) (h : Nd w nd a n cap ps (.slice none 0 0)) (hm : Mono ps key) (hn : n ≤ 140737488355328) :
    Calls Try.prog 21 #[.pointer (some ⟨m, 0, none⟩), .string key] w fun e w' => ∃ k : Nat, e = .returned (.tuple #[.string (valP ps key k), .bool (isP ps key k)]) ∧ Hid (AtP ps key k) ∧ Hid (Below w.heap.size w w') := by
  have c2 := hmp.cell (i := 2) rfl
  have c0 := hmp.cell (i := 0) rfl
  have HC := And.intro h (And.intro hm hn)
  have HC' : Hid (Nd w nd a n cap ps (.slice none 0 0) ∧ Mono ps key ∧ n ≤ 140737488355328) := HC
  clear HC h hm hn hmp
  go_enter Try.func21, Try.ntmps21
  go_wp2_with (first | (go_at_call 22; refine (made_is w m true c2).mono ?_; rintro e w2 ⟨rfl, rfl⟩) | (go_at_call 30; refine (get_leaf w nd a n cap ps key HC'.out.1 HC'.out.2.1 HC'.out.2.2).mono ?_; rintro e w3 ⟨k, rfl, HA, HB⟩))
  go_ret2
  exact ⟨k, rfl, HA, HB⟩
theorem new_is (w : World) : Calls Try.prog 10 #[] w fun e w' => e = .returned (.pointer (some ⟨w.heap.size, 0, none⟩)) ∧ Hid (Mp w' w.heap.size (.pointer none) 0) ∧ Hid (Below w.heap.size w w') := by
  go_enter Try.func10, Try.ntmps10
  go_wp2
  go_ret
  exact ⟨rfl, Blk.new _ _ _, (Below.refl _ w).alloc (Nat.le_refl _) _⟩
end Go.Proofs.Ytnagknlfboadkaa.Oct

/- Trees of pairs, all of whose leaves are equally deep: what they hold, as one list; pairs put in and taken out. Of no program. -/
namespace Go.Proofs.Ytnagknlfboadkaa.Oct
open Go.RowKit

def Lt (a b : ByteArray) : Bool := Op.bytesLess a.toList b.toList
theorem geS_eq (a b : ByteArray) : geS a b = !(Lt a b) := rfl
theorem bl_irrefl : ∀ l : List UInt8, Op.bytesLess l l = false
  | [] => rfl
  | a :: r => by simp [Op.bytesLess, bl_irrefl r]
theorem bl_trans : ∀ {a b c : List UInt8}, Op.bytesLess a b = true → Op.bytesLess b c = true → Op.bytesLess a c = true
  | _, [], _, h, _ => by cases ‹List UInt8› <;> simp [Op.bytesLess] at h
  | _, _ :: _, [], _, h => by simp [Op.bytesLess] at h
  | [], _ :: _, _ :: _, _, _ => rfl
  | x :: a, y :: b, z :: c, h1, h2 => by
    simp only [Op.bytesLess, Bool.or_eq_true, decide_eq_true_eq, Bool.and_eq_true, beq_iff_eq] at h1 h2 ⊢
    rcases h1 with h1 | ⟨rfl, h1⟩
    · rcases h2 with h2 | ⟨rfl, h2⟩
      · exact .inl (UInt8.lt_trans h1 h2)
      · exact .inl h1
    · rcases h2 with h2 | ⟨rfl, h2⟩
      · exact .inl h2
      · exact .inr ⟨rfl, bl_trans h1 h2⟩
theorem bl_total : ∀ {a b : List UInt8}, Op.bytesLess a b = false → Op.bytesLess b a = false → a = b
  | [], [], _, _ => rfl
  | [], _ :: _, h, _ => by simp [Op.bytesLess] at h
  | _ :: _, [], _, h => by simp [Op.bytesLess] at h
  | x :: a, y :: b, h1, h2 => by
    simp only [Op.bytesLess, Bool.or_eq_false_iff, decide_eq_false_iff_not, Bool.and_eq_false_iff, beq_eq_false_iff_ne] at h1 h2
    have hxy : x = y := UInt8.le_antisymm (UInt8.not_lt.1 h2.1) (UInt8.not_lt.1 h1.1)
    subst hxy
    have e1 : Op.bytesLess a b = false := by
      rcases h1.2 with h | h
      · exact absurd rfl h
      · exact h
    have e2 : Op.bytesLess b a = false := by
      rcases h2.2 with h | h
      · exact absurd rfl h
      · exact h
    rw [bl_total e1 e2]
theorem lt_irrefl (a : ByteArray) : Lt a a = false := bl_irrefl _
theorem lt_trans {a b c : ByteArray} (h : Lt a b = true) (k : Lt b c = true) : Lt a c = true := bl_trans h k
theorem list_inj {a b : ByteArray} (h : a.toList = b.toList) : a = b := by
  rw [ByteArray.toList_eq, ByteArray.toList_eq] at h
  cases a; cases b
  simp only [ByteArray.mk.injEq]
  exact Array.toList_inj.1 h
theorem lt_total {a b : ByteArray} (h : Lt a b = false) (k : Lt b a = false) : a = b := list_inj (bl_total h k)
theorem lt_asymm {a b : ByteArray} (h : Lt a b = true) : Lt b a = false := by
  cases k : Lt b a with
  | false => rfl
  | true => have := lt_trans h k; rw [lt_irrefl] at this; cases this
theorem lt_ge {a b c : ByteArray} (h : Lt a b = false) (k : Lt a c = true) : Lt b c = true := by
  cases hb : Lt b c with
  | true => rfl
  | false =>
    cases hba : Lt b a with
    | true => have := lt_trans hba k; rw [hb] at this; cases this
    | false => have := lt_total h hba; subst this; rw [k] at hb; cases hb
theorem eqb_iff {a b : ByteArray} : (a.toList == b.toList) = true ↔ a = b := ⟨fun h => list_inj (by simpa using h), fun h => by subst h; simp⟩

/-- keys that rise -/
def Ris (l : List Pr) : Prop := l.Pairwise (fun x y => Lt x.1 y.1 = true)
/-- what is less, what is greater -/
def lo (k : ByteArray) (l : List Pr) : List Pr := l.filter (fun x => Lt x.1 k)
def hi (k : ByteArray) (l : List Pr) : List Pr := l.filter (fun x => Lt k x.1)
def eqs (k : ByteArray) (l : List Pr) : List Pr := l.filter (fun x => x.1.toList == k.toList)
/-- a pair put into a list, a key taken out -/
def insP (l : List Pr) (x : Pr) : List Pr := lo x.1 l ++ [x] ++ hi x.1 l
def remP (l : List Pr) (k : ByteArray) : List Pr := lo k l ++ hi k l
def AllL (k : ByteArray) (l : List Pr) : Prop := ∀ x ∈ l, Lt x.1 k = true
def AllG (k : ByteArray) (l : List Pr) : Prop := ∀ x ∈ l, Lt k x.1 = true
theorem lo_L {k : ByteArray} {l : List Pr} (h : AllL k l) : lo k l = l := List.filter_eq_self.2 h
theorem hi_L {k : ByteArray} {l : List Pr} (h : AllL k l) : hi k l = [] := List.filter_eq_nil_iff.2 fun x hx => by rw [lt_asymm (h x hx)]; simp
theorem lo_G {k : ByteArray} {l : List Pr} (h : AllG k l) : lo k l = [] := List.filter_eq_nil_iff.2 fun x hx => by rw [lt_asymm (h x hx)]; simp
theorem hi_G {k : ByteArray} {l : List Pr} (h : AllG k l) : hi k l = l := List.filter_eq_self.2 h
theorem eqs_L {k : ByteArray} {l : List Pr} (h : AllL k l) : eqs k l = [] := List.filter_eq_nil_iff.2 fun x hx e => by
  have := h x hx
  rw [eqb_iff.1 e, lt_irrefl] at this; cases this
theorem eqs_G {k : ByteArray} {l : List Pr} (h : AllG k l) : eqs k l = [] := List.filter_eq_nil_iff.2 fun x hx e => by
  have := h x hx
  rw [eqb_iff.1 e, lt_irrefl] at this; cases this
theorem insP_mid {A M B : List Pr} {x : Pr} (hA : AllL x.1 A) (hB : AllG x.1 B) : insP (A ++ M ++ B) x = A ++ insP M x ++ B := by
  unfold insP
  have e1 : lo x.1 (A ++ M ++ B) = A ++ lo x.1 M := by
    have : lo x.1 (A ++ M ++ B) = lo x.1 A ++ lo x.1 M ++ lo x.1 B := by simp [lo]
    rw [this, lo_L hA, lo_G hB, List.append_nil]
  have e2 : hi x.1 (A ++ M ++ B) = hi x.1 M ++ B := by
    have : hi x.1 (A ++ M ++ B) = hi x.1 A ++ hi x.1 M ++ hi x.1 B := by simp [hi]
    rw [this, hi_L hA, hi_G hB, List.nil_append]
  rw [e1, e2]
  simp
theorem remP_mid {A M B : List Pr} {k : ByteArray} (hA : AllL k A) (hB : AllG k B) : remP (A ++ M ++ B) k = A ++ remP M k ++ B := by
  unfold remP
  have e1 : lo k (A ++ M ++ B) = A ++ lo k M := by
    have : lo k (A ++ M ++ B) = lo k A ++ lo k M ++ lo k B := by simp [lo]
    rw [this, lo_L hA, lo_G hB, List.append_nil]
  have e2 : hi k (A ++ M ++ B) = hi k M ++ B := by
    have : hi k (A ++ M ++ B) = hi k A ++ hi k M ++ hi k B := by simp [hi]
    rw [this, hi_L hA, hi_G hB, List.nil_append]
  rw [e1, e2]
  simp
theorem eqs_mid {A M B : List Pr} {k : ByteArray} (hA : AllL k A) (hB : AllG k B) : eqs k (A ++ M ++ B) = eqs k M := by
  have : eqs k (A ++ M ++ B) = eqs k A ++ eqs k M ++ eqs k B := by simp [eqs]
  rw [this, eqs_L hA, eqs_G hB]; simp
theorem remP_one {A B : List Pr} {x : Pr} (hA : AllL x.1 A) (hB : AllG x.1 B) : remP (A ++ x :: B) x.1 = A ++ B := by
  have := remP_mid (M := [x]) hA hB
  rw [List.append_assoc] at this
  rw [show A ++ x :: B = A ++ ([x] ++ B) from rfl, this]
  simp [remP, lo, hi, lt_irrefl]
theorem insP_one {A B : List Pr} {x y : Pr} (hy : y.1 = x.1) (hA : AllL x.1 A) (hB : AllG x.1 B) : insP (A ++ y :: B) x = A ++ x :: B := by
  have := insP_mid (M := [y]) (x := x) hA hB
  rw [List.append_assoc] at this
  rw [show A ++ y :: B = A ++ ([y] ++ B) from rfl, this]
  simp [insP, lo, hi, hy, lt_irrefl]
theorem eqs_one {A B : List Pr} {x : Pr} (hA : AllL x.1 A) (hB : AllG x.1 B) : eqs x.1 (A ++ x :: B) = [x] := by
  have := eqs_mid (M := [x]) hA hB
  rw [List.append_assoc] at this
  rw [show A ++ x :: B = A ++ ([x] ++ B) from rfl, this]
  simp [eqs]
/-- in keys that rise, what is ahead of a key is less, what is behind it greater -/
theorem Ris.split {A B : List Pr} {x : Pr} (h : Ris (A ++ x :: B)) : AllL x.1 A ∧ AllG x.1 B := by
  unfold Ris at h
  rw [List.pairwise_append] at h
  refine ⟨fun y hy => h.2.2 y hy x (by simp), fun y hy => ?_⟩
  exact (List.pairwise_cons.1 h.2.1).1 y hy
theorem Ris.left {A B : List Pr} (h : Ris (A ++ B)) : Ris A := (List.pairwise_append.1 h).1
theorem Ris.right {A B : List Pr} (h : Ris (A ++ B)) : Ris B := (List.pairwise_append.1 h).2.1
theorem AllL.of {k : ByteArray} {l m : List Pr} (h : AllL k l) (hs : ∀ x ∈ m, x ∈ l) : AllL k m := fun x hx => h x (hs x hx)
theorem AllG.of {k : ByteArray} {l m : List Pr} (h : AllG k l) (hs : ∀ x ∈ m, x ∈ l) : AllG k m := fun x hx => h x (hs x hx)
/-- the same pairs rise -/
theorem ris_ins {l : List Pr} (h : Ris l) (x : Pr) : Ris (insP l x) := by
  unfold insP Ris
  rw [List.append_assoc, List.pairwise_append]
  refine ⟨h.filter _, ?_, ?_⟩
  · rw [List.singleton_append, List.pairwise_cons]
    exact ⟨fun y hy => by simpa [hi] using (List.mem_filter.1 hy).2, h.filter _⟩
  · intro a ha b hb
    have h1 : Lt a.1 x.1 = true := (List.mem_filter.1 ha).2
    rw [List.singleton_append, List.mem_cons] at hb
    rcases hb with rfl | hb
    · exact h1
    · exact lt_trans h1 (List.mem_filter.1 hb).2
theorem ris_rem {l : List Pr} (h : Ris l) (k : ByteArray) : Ris (remP l k) := by
  unfold remP Ris
  rw [List.pairwise_append]
  exact ⟨h.filter _, h.filter _, fun a ha b hb => lt_trans (List.mem_filter.1 ha).2 (List.mem_filter.1 hb).2⟩

/-- where a key stands in pairs that rise -/
theorem ris_at {ps : List Pr} {key : ByteArray} {k : Nat} (h : Ris ps) (ha : AtP ps key k) : AllL key (ps.take k) ∧
    (isP ps key k = true → ∃ x, ps[k]? = some x ∧ x.1 = key ∧ ps = ps.take k ++ x :: ps.drop (k + 1) ∧ AllG key (ps.drop (k + 1))) ∧ (isP ps key k = false → AllG key (ps.drop k)) := by
  have hL : AllL key (ps.take k) := by
    intro x hx
    obtain ⟨i, hi, rfl⟩ := List.mem_iff_getElem.1 hx
    have hik : i < k := by rw [List.length_take] at hi; omega
    have hip : i < ps.length := by rw [List.length_take] at hi; omega
    have := ha.2.1 i _ hik (List.getElem?_eq_getElem hip)
    rw [List.getElem_take]
    simpa [geS_eq] using this
  refine ⟨hL, fun hi => ?_, fun hi => ?_⟩
  · cases hx : ps[k]? with
    | none => simp only [isP, hx] at hi; cases hi
    | some x =>
      simp only [isP, hx] at hi
      have hk := eqb_iff.1 hi
      obtain ⟨hlt, e⟩ := List.getElem?_eq_some_iff.1 hx
      have es : ps = ps.take k ++ x :: ps.drop (k + 1) := by
        rw [← e, ← List.drop_eq_getElem_cons hlt, List.take_append_drop]
      refine ⟨x, rfl, hk, es, ?_⟩
      have h2 := h
      rw [es] at h2
      rw [← hk]
      exact h2.split.2
  · intro y hy
    obtain ⟨i, hi', rfl⟩ := List.mem_iff_getElem.1 hy
    have hip : k + i < ps.length := by rw [List.length_drop] at hi'; omega
    have hge : ∀ j (hj : j < ps.length), k ≤ j → Lt (ps[j]).1 key = false := fun j hj hkj => by
      have := ha.2.2 j _ hkj (List.getElem?_eq_getElem hj)
      simpa [geS_eq] using this
    have hk : k < ps.length := by omega
    have h0 := hge k hk (Nat.le_refl _)
    have hne : ps[k].1 ≠ key := by
      intro e
      have : isP ps key k = true := by simp only [isP, List.getElem?_eq_getElem hk]; exact eqb_iff.2 e
      rw [hi] at this; cases this
    have hlt : Lt key ps[k].1 = true := by
      cases hc : Lt key ps[k].1 with
      | true => rfl
      | false => exact absurd (lt_total h0 hc) hne
    rw [List.getElem_drop]
    cases i with
    | zero => exact hlt
    | succ j =>
      have := List.pairwise_iff_getElem.1 h k (k + (j + 1)) hk hip (by omega)
      exact lt_trans hlt this
theorem ris_mono {ps : List Pr} (h : Ris ps) (key : ByteArray) : Mono ps key := by
  intro i j x y hij hx hy hg
  by_cases e : i = j
  · subst e; rw [hx] at hy; cases hy; exact hg
  · obtain ⟨h1, rfl⟩ := List.getElem?_eq_some_iff.1 hx
    obtain ⟨h2, rfl⟩ := List.getElem?_eq_some_iff.1 hy
    have hlt := List.pairwise_iff_getElem.1 h i j h1 h2 (by omega)
    rw [geS_eq] at hg ⊢
    cases hc : Lt ps[j].1 key with
    | false => rfl
    | true => have := lt_trans hlt hc; rw [this] at hg; cases hg
end Go.Proofs.Ytnagknlfboadkaa.Oct

/- Trees all of whose leaves are equally deep: their pairs as one list; nodes cut, joined, and mended. Of no program. -/
namespace Go.Proofs.Ytnagknlfboadkaa.Oct
open Go.RowKit

/-- a tree of depth d + 1 -/
def T : Nat → Type
  | 0 => List Pr
  | d + 1 => List Pr × List (T d)
/-- a root's own pairs -/
def prs : (d : Nat) → T d → List Pr
  | 0, t => t
  | _ + 1, t => t.1
/-- pairs with what stands behind them -/
def dn (ps : List Pr) (ls : List (List Pr)) : List Pr := (List.zipWith (fun p l => p :: l) ps ls).flatten
/-- pairs with what stands ahead of them -/
def upp (ls : List (List Pr)) (ps : List Pr) : List Pr := (List.zipWith (fun l p => l ++ [p]) ls ps).flatten
def inter : List (List Pr) → List Pr → List Pr
  | [], _ => []
  | l :: ls, ps => l ++ dn ps ls
/-- all pairs of a tree, in order -/
def tl : (d : Nat) → T d → List Pr
  | 0, t => t
  | d + 1, t => inter (t.2.map (tl d)) t.1
/-- kids are not too small and not too great, and one more than pairs -/
def WF : (d : Nat) → T d → Prop
  | 0, _ => True
  | d + 1, t => t.2.length = t.1.length + 1 ∧ ∀ k ∈ t.2, WF d k ∧ 3 ≤ (prs d k).length ∧ (prs d k).length ≤ 7

theorem dn_app {p1 p2 : List Pr} {l1 l2 : List (List Pr)} (h : p1.length = l1.length) : dn (p1 ++ p2) (l1 ++ l2) = dn p1 l1 ++ dn p2 l2 := by
  unfold dn; rw [List.zipWith_append h, List.flatten_append]
theorem upp_app {p1 p2 : List Pr} {l1 l2 : List (List Pr)} (h : l1.length = p1.length) : upp (l1 ++ l2) (p1 ++ p2) = upp l1 p1 ++ upp l2 p2 := by
  unfold upp; rw [List.zipWith_append h, List.flatten_append]
/-- a node's pairs at one of its kids -/
theorem inter_at : ∀ {ls : List (List Pr)} {ps : List Pr} (i : Nat) (l : List Pr), ls.length = ps.length + 1 → ls[i]? = some l → inter ls ps = upp (ls.take i) (ps.take i) ++ l ++ dn (ps.drop i) (ls.drop (i + 1))
  | [], _, i, l, _, h => by simp at h
  | a :: ls, ps, 0, l, hl, h => by
    simp at h; subst h
    simp [inter, upp]
  | a :: ls, [], i + 1, l, hl, h => by
    have : ls = [] := by simpa using hl
    subst this
    simp at h
  | a :: ls, p :: ps, i + 1, l, hl, h => by
    have hl' : ls.length = ps.length + 1 := by simpa using hl
    have h' : ls[i]? = some l := by simpa using h
    have ih := inter_at i l hl' h'
    cases ls with
    | nil => simp at h'
    | cons b ls =>
      have e1 : inter (a :: b :: ls) (p :: ps) = a ++ [p] ++ inter (b :: ls) ps := by simp [inter, dn]
      rw [e1, ih]
      simp [upp]
theorem inter_join {l1 l2 : List (List Pr)} {p1 p2 : List Pr} {p : Pr} (h1 : l1.length = p1.length + 1) (h2 : l2 ≠ []) : inter (l1 ++ l2) (p1 ++ p :: p2) = inter l1 p1 ++ p :: inter l2 p2 := by
  cases l1 with
  | nil => simp at h1
  | cons a l1 =>
    cases l2 with
    | nil => exact absurd rfl h2
    | cons b l2 =>
      have hl : p1.length = l1.length := by simpa using h1.symm
      show a ++ dn (p1 ++ p :: p2) (l1 ++ b :: l2) = (a ++ dn p1 l1) ++ p :: (b ++ dn p2 l2)
      rw [dn_app hl]
      simp [dn]
/-- one kid in another one's place -/
theorem inter_set {ls : List (List Pr)} {ps : List Pr} {i : Nat} {l l' : List Pr} (hl : ls.length = ps.length + 1) (h : ls[i]? = some l) : inter (ls.take i ++ [l'] ++ ls.drop (i + 1)) ps = upp (ls.take i) (ps.take i) ++ l' ++ dn (ps.drop i) (ls.drop (i + 1)) := by
  have hi := (List.getElem?_eq_some_iff.1 h).1
  have e : (ls.take i ++ [l'] ++ ls.drop (i + 1))[i]? = some l' := by
    rw [List.append_assoc, List.getElem?_append_right (by rw [List.length_take]; omega), List.length_take]
    simp [Nat.min_eq_left (Nat.le_of_lt hi)]
  have e2 : (ls.take i ++ [l'] ++ ls.drop (i + 1)).length = ps.length + 1 := by simp; omega
  rw [inter_at i l' e2 e]
  have e3 : (ls.take i ++ [l'] ++ ls.drop (i + 1)).take i = ls.take i := by
    rw [List.append_assoc, List.take_append_of_le_length (by rw [List.length_take]; omega), List.take_take]; simp
  have e4 : (ls.take i ++ [l'] ++ ls.drop (i + 1)).drop (i + 1) = ls.drop (i + 1) := by
    rw [List.drop_append, List.drop_eq_nil_of_le (by simp; omega)]
    simp [Nat.min_eq_left (Nat.le_of_lt hi)]
  rw [e3, e4]
/-- two kids, with a pair between them, in one's place -/
theorem inter_two {ls : List (List Pr)} {ps : List Pr} {i : Nat} {l a b : List Pr} {m : Pr} (hl : ls.length = ps.length + 1) (h : ls[i]? = some l) :
    inter (ls.take i ++ [a, b] ++ ls.drop (i + 1)) (ps.take i ++ [m] ++ ps.drop i) = upp (ls.take i) (ps.take i) ++ (a ++ m :: b) ++ dn (ps.drop i) (ls.drop (i + 1)) := by
  have hi := (List.getElem?_eq_some_iff.1 h).1
  have e1 : ls.take i ++ [a, b] ++ ls.drop (i + 1) = (ls.take i ++ [a]) ++ (b :: ls.drop (i + 1)) := by simp
  have e2 : ps.take i ++ [m] ++ ps.drop i = ps.take i ++ m :: ps.drop i := by simp
  rw [e1, e2, inter_join (by simp; omega) (by simp)]
  have e3 : inter (ls.take i ++ [a]) (ps.take i) = upp (ls.take i) (ps.take i) ++ a := by
    have hx : (ls.take i ++ [a])[i]? = some a := by
      rw [List.getElem?_append_right (by rw [List.length_take]; omega), List.length_take]; simp [Nat.min_eq_left (Nat.le_of_lt hi)]
    rw [inter_at i a (by simp; omega) hx]
    have k1 : (ls.take i ++ [a]).take i = ls.take i := by
      rw [List.take_append_of_le_length (by rw [List.length_take]; omega), List.take_take]; simp
    have k2 : (ls.take i ++ [a]).drop (i + 1) = [] := List.drop_eq_nil_of_le (by simp; omega)
    rw [k1, k2, List.take_take]
    simp [dn]
  rw [e3]
  simp [inter]
/-- a node cut in two -/
theorem inter_cut {ls : List (List Pr)} {ps : List Pr} {i : Nat} {p : Pr} (hl : ls.length = ps.length + 1) (h : ps[i]? = some p) :
    inter ls ps = inter (ls.take (i + 1)) (ps.take i) ++ p :: inter (ls.drop (i + 1)) (ps.drop (i + 1)) := by
  obtain ⟨hi, e⟩ := List.getElem?_eq_some_iff.1 h
  have e1 : ps = ps.take i ++ p :: ps.drop (i + 1) := by rw [← e, ← List.drop_eq_getElem_cons hi, List.take_append_drop]
  have e2 : ls = ls.take (i + 1) ++ ls.drop (i + 1) := (List.take_append_drop _ _).symm
  have hne : ls.drop (i + 1) ≠ [] := by
    intro h0
    have := congrArg List.length h0
    simp at this; omega
  have := inter_join (p := p) (p1 := ps.take i) (p2 := ps.drop (i + 1)) (l1 := ls.take (i + 1)) (l2 := ls.drop (i + 1)) (by simp; omega) hne
  rw [← e1, ← e2] at this
  exact this
theorem mem_upp {ls : List (List Pr)} {ps : List Pr} {x : Pr} (h : x ∈ ps) (hl : ps.length ≤ ls.length) : x ∈ upp ls ps := by
  obtain ⟨i, hi, rfl⟩ := List.mem_iff_getElem.1 h
  unfold upp
  rw [List.mem_flatten]
  refine ⟨ls[i] ++ [ps[i]], ?_, by simp⟩
  rw [List.mem_iff_getElem]
  exact ⟨i, by simp; omega, by simp⟩
theorem mem_dn {ls : List (List Pr)} {ps : List Pr} {x : Pr} (h : x ∈ ps) (hl : ps.length ≤ ls.length) : x ∈ dn ps ls := by
  obtain ⟨i, hi, rfl⟩ := List.mem_iff_getElem.1 h
  unfold dn
  rw [List.mem_flatten]
  refine ⟨ps[i] :: ls[i], ?_, by simp⟩
  rw [List.mem_iff_getElem]
  exact ⟨i, by simp; omega, by simp⟩
end Go.Proofs.Ytnagknlfboadkaa.Oct

/- Trees: where a key stands in a node's kids; what becomes of the list. Of no program. -/
namespace Go.Proofs.Ytnagknlfboadkaa.Oct
open Go.RowKit

theorem upp_L {key : ByteArray} : ∀ {ls : List (List Pr)} {ps : List Pr}, ls.length = ps.length → Ris (upp ls ps) → AllL key ps → AllL key (upp ls ps)
  | [], [], _, _, _ => by intro x hx; simp [upp] at hx
  | [], _ :: _, h, _, _ => by simp at h
  | _ :: _, [], h, _, _ => by simp at h
  | l :: ls, p :: ps, h, hr, hL => by
    have e : upp (l :: ls) (p :: ps) = l ++ p :: upp ls ps := by simp [upp]
    rw [e] at hr ⊢
    have hp : Lt p.1 key = true := hL p (by simp)
    have ih := upp_L (by simpa using h) (List.pairwise_cons.1 hr.right).2 (hL.of (fun x hx => List.mem_cons_of_mem _ hx))
    intro x hx
    rcases List.mem_append.1 hx with hx | hx
    · exact lt_trans (hr.split.1 x hx) hp
    · rcases List.mem_cons.1 hx with rfl | hx
      · exact hp
      · exact ih x hx
theorem dn_G {key : ByteArray} : ∀ {ps : List Pr} {ls : List (List Pr)}, ps.length = ls.length → Ris (dn ps ls) → AllG key ps → AllG key (dn ps ls)
  | [], [], _, _, _ => by intro x hx; simp [dn] at hx
  | [], _ :: _, h, _, _ => by simp at h
  | _ :: _, [], h, _, _ => by simp at h
  | p :: ps, l :: ls, h, hr, hG => by
    have e : dn (p :: ps) (l :: ls) = p :: (l ++ dn ps ls) := by simp [dn]
    rw [e] at hr ⊢
    have hp : Lt key p.1 = true := hG p (by simp)
    have hr2 := List.pairwise_cons.1 hr
    have ih := dn_G (by simpa using h) (List.pairwise_append.1 hr2.2).2.1 (hG.of (fun x hx => List.mem_cons_of_mem _ hx))
    intro x hx
    rcases List.mem_cons.1 hx with rfl | hx
    · exact hp
    · exact lt_trans hp (hr2.1 x hx)

/-- a node's own pairs rise -/
theorem ris_own {d : Nat} {t : T (d + 1)} (h : Ris (tl (d + 1) t)) (hl : t.2.length = t.1.length + 1) : Ris t.1 := by
  have hs : t.1.Sublist (tl (d + 1) t) := by
    show t.1.Sublist (inter (t.2.map (tl d)) t.1)
    obtain ⟨ps, ts⟩ := t
    cases ts with
    | nil => simp at hl
    | cons a ts =>
      have hl' : ps.length = ts.length := by simpa using hl.symm
      show ps.Sublist (tl d a ++ dn ps (ts.map (tl d)))
      refine List.Sublist.trans ?_ (List.sublist_append_right _ _)
      clear h hl
      induction ps generalizing ts with
      | nil => simp
      | cons p ps ih =>
        cases ts with
        | nil => simp at hl'
        | cons b ts =>
          have e : dn (p :: ps) (List.map (tl d) (b :: ts)) = p :: (tl d b ++ dn ps (ts.map (tl d))) := by simp [dn]
          rw [e]
          exact List.Sublist.cons_cons _ ((ih ts (by simpa using hl')).trans (List.sublist_append_right _ _))
  exact h.sublist hs
theorem ris_prs {d : Nat} {t : T d} (h : Ris (tl d t)) (hw : WF d t) : Ris (prs d t) := by
  cases d with
  | zero => exact h
  | succ d => exact ris_own h hw.1
theorem kid_map {d : Nat} {ts : List (T d)} {i : Nat} {k : T d} (h : ts[i]? = some k) : (ts.map (tl d))[i]? = some (tl d k) := by rw [List.getElem?_map, h]; rfl
/-- a node at the kid where a key belongs -/
theorem node_at {d : Nat} {ps : List Pr} {ts : List (T d)} {key : ByteArray} {i : Nat} {k : T d} (hl : ts.length = ps.length + 1) (hr : Ris (inter (ts.map (tl d)) ps)) (hp : Ris ps) (ha : AtP ps key i) (hk : ts[i]? = some k) (hi : isP ps key i = false) :
    ∃ A B, inter (ts.map (tl d)) ps = A ++ tl d k ++ B ∧ A = upp ((ts.map (tl d)).take i) (ps.take i) ∧ B = dn (ps.drop i) ((ts.map (tl d)).drop (i + 1)) ∧ AllL key A ∧ AllG key B ∧ Ris (tl d k) := by
  have hil : i ≤ ps.length := ha.1
  have e := inter_at i (tl d k) (ls := ts.map (tl d)) (ps := ps) (by simpa using hl) (kid_map hk)
  have hr2 := hr
  rw [e] at hr2
  obtain ⟨h1, _, h3⟩ := ris_at hp ha
  refine ⟨_, _, e, rfl, rfl, upp_L (by simp; omega) hr2.left.left h1, dn_G (by simp; omega) hr2.right (h3 hi), hr2.left.right⟩
/-- a node at a pair -/
theorem node_is {d : Nat} {ps : List Pr} {ts : List (T d)} {i : Nat} {x : Pr} (hl : ts.length = ps.length + 1) (hr : Ris (inter (ts.map (tl d)) ps)) (hx : ps[i]? = some x) :
    ∃ A B, inter (ts.map (tl d)) ps = A ++ x :: B ∧ A = inter ((ts.map (tl d)).take (i + 1)) (ps.take i) ∧ B = inter ((ts.map (tl d)).drop (i + 1)) (ps.drop (i + 1)) ∧ AllL x.1 A ∧ AllG x.1 B := by
  have e := inter_cut (ls := ts.map (tl d)) (i := i) (by simpa using hl) hx
  have hr2 := hr
  rw [e] at hr2
  exact ⟨_, _, e, rfl, rfl, hr2.split.1, hr2.split.2⟩
/-- a leaf with a pair put in, in a pair's place or beside them -/
theorem leaf_ins_is {ps : List Pr} {x : Pr} {k : Nat} (h : Ris ps) (ha : AtP ps x.1 k) (hi : isP ps x.1 k = true) : insP ps x = ps.take k ++ [x] ++ ps.drop (k + 1) := by
  obtain ⟨h1, h2, _⟩ := ris_at h ha
  obtain ⟨y, _, hy, e, hG⟩ := h2 hi
  rw [List.append_assoc]
  refine Eq.trans (congrArg (fun l => insP l x) e) ?_
  exact insP_one hy h1 hG
theorem leaf_ins_no {ps : List Pr} {x : Pr} {k : Nat} (h : Ris ps) (ha : AtP ps x.1 k) (hi : isP ps x.1 k = false) : insP ps x = ps.take k ++ [x] ++ ps.drop k := by
  obtain ⟨h1, _, h3⟩ := ris_at h ha
  have e : ps = ps.take k ++ [] ++ ps.drop k := by simp
  refine Eq.trans (congrArg (fun l => insP l x) e) ?_
  rw [insP_mid h1 (h3 hi)]
  rfl
theorem leaf_rem {ps : List Pr} {key : ByteArray} {k : Nat} (h : Ris ps) (ha : AtP ps key k) (hi : isP ps key k = true) : remP ps key = ps.take k ++ ps.drop (k + 1) := by
  obtain ⟨h1, h2, _⟩ := ris_at h ha
  obtain ⟨y, _, hy, e, hG⟩ := h2 hi
  subst hy
  refine Eq.trans (congrArg (fun l => remP l y.1) e) ?_
  exact remP_one h1 hG
/-- what is told of a key -/
theorem eqs_is {ps : List Pr} {key : ByteArray} {k : Nat} (h : Ris ps) (ha : AtP ps key k) (hi : isP ps key k = true) : ∃ x, ps[k]? = some x ∧ x.1 = key ∧ eqs key ps = [x] := by
  obtain ⟨h1, h2, _⟩ := ris_at h ha
  obtain ⟨y, hy0, hy, e, hG⟩ := h2 hi
  subst hy
  refine ⟨y, hy0, rfl, ?_⟩
  refine Eq.trans (congrArg (eqs y.1) e) ?_
  exact eqs_one h1 hG
theorem eqs_no {ps : List Pr} {key : ByteArray} {k : Nat} (h : Ris ps) (ha : AtP ps key k) (hi : isP ps key k = false) : eqs key ps = [] := by
  obtain ⟨h1, _, h3⟩ := ris_at h ha
  have e : ps = ps.take k ++ [] ++ ps.drop k := by simp
  refine Eq.trans (congrArg (eqs key) e) ?_
  rw [eqs_mid h1 (h3 hi)]
  rfl
end Go.Proofs.Ytnagknlfboadkaa.Oct

/- Rows of cells that are read, and 'append' to a row that is full or the call's own. Of no program. -/
namespace Go.Proofs.Ytnagknlfboadkaa.Oct
open Go.RowKit

/-- a slice of n elements of sz cells each: the cells cs -/
def Rd (w : World) (e sz : Nat) (a : Option Addr) (n : Nat) (cs : List Value) : Prop :=
  cs.length = n * sz ∧ (∀ u ∈ cs, u.oneCell' = true) ∧ (0 < n → ∃ g off, a = some ⟨g, off, none⟩ ∧ RowT w e g ∧ ∀ j u, cs[j]? = some u → w.cell? ⟨g, off + j, none⟩ = some u)
theorem Rd.below {w w' : World} {B e sz : Nat} {a : Option Addr} {n : Nat} {cs : List Value} (h : Rd w e sz a n cs) (hb : Below B w w') (hB : w.heap.size ≤ B) : Rd w' e sz a n cs := by
  refine ⟨h.1, h.2.1, fun hp => ?_⟩
  obtain ⟨g, off, e, h1, h2⟩ := h.2.2 hp
  have hgl := h1.lt
  exact ⟨g, off, e, h1.same (hb.block g (by omega)), fun i b hi => (hb.cell (p := ⟨g, _, none⟩) (by show g < B; omega)).trans (h2 i b hi)⟩
theorem Rd.take {w : World} {e sz : Nat} {a : Option Addr} {n : Nat} {cs : List Value} (h : Rd w e sz a n cs) {i : Nat} (hi : i ≤ n) : Rd w e sz a i (cs.take (i * sz)) := by
  refine ⟨by rw [List.length_take, h.1]; exact Nat.min_eq_left (Nat.mul_le_mul_right _ hi), fun u hu => h.2.1 u (List.mem_of_mem_take hu), fun hp => ?_⟩
  obtain ⟨g, off, e, h1, h2⟩ := h.2.2 (by omega)
  refine ⟨g, off, e, h1, fun j u hu => h2 j u ?_⟩
  rw [List.getElem?_take] at hu
  split at hu
  · exact hu
  · cases hu
theorem Rd.drop {w : World} {e sz : Nat} {g off n : Nat} {cs : List Value} (h : Rd w e sz (some ⟨g, off, none⟩) n cs) {j : Nat} (hj : j ≤ n) : Rd w e sz (some ⟨g, off + j * sz, none⟩) (n - j) (cs.drop (j * sz)) := by
  refine ⟨by rw [List.length_drop, h.1, Nat.sub_mul], fun u hu => h.2.1 u (List.mem_of_mem_drop hu), fun hp => ?_⟩
  obtain ⟨g', off', e, h1, h2⟩ := h.2.2 (by omega)
  cases e
  refine ⟨g, _, rfl, h1, fun k u hk => ?_⟩
  rw [List.getElem?_drop] at hk
  rw [Nat.add_assoc]
  exact h2 _ u hk
theorem Rd.nil (w : World) (e sz : Nat) (a : Option Addr) : Rd w e sz a 0 [] := ⟨by simp, by simp, fun h => absurd h (by omega)⟩
/-- a slice's address, or none of a slice without room -/
def Ad (a : Option Addr) (cap : Nat) : Prop := (a = none ∧ cap = 0) ∨ ∃ g off, a = some ⟨g, off, none⟩
/-- what may be appended to: a full row that is read, or one of the call's own -/
def Bs (e sz B : Nat) (w : World) (v : Value) (n : Nat) (cs : List Value) : Prop := (∃ a, v = .slice a n n ∧ Rd w e sz a n cs ∧ Ad a n) ∨ ((∀ u ∈ cs, u.oneCell' = true) ∧ w.ownsRow B e sz v n cs)
theorem Bs.read {e sz B : Nat} {w : World} {v : Value} {n : Nat} {cs : List Value} (h : Bs e sz B w v n cs) : ∃ a cap, v = .slice a n cap ∧ n ≤ cap ∧ Rd w e sz a n cs ∧ Ad a cap := by
  rcases h with ⟨a, rfl, h, h0⟩ | ⟨h1, h⟩
  · exact ⟨a, n, rfl, Nat.le_refl _, h, h0⟩
  · rcases h.2 with ⟨rfl, rfl⟩ | ⟨g, cap, cur, rfl, hB, hb, hn, _, _, ht⟩
    · exact ⟨none, 0, rfl, Nat.le_refl _, ⟨h.1, h1, fun hp => absurd hp (by omega)⟩, .inl ⟨rfl, rfl⟩⟩
    · refine ⟨_, cap, rfl, hn, ⟨h.1, h1, fun _ => ⟨g, 0, rfl, ⟨_, _, hb⟩, fun j u hu => ?_⟩⟩, .inr ⟨g, 0, rfl⟩⟩
      rw [Nat.zero_add, cell_of_row w g j _ e (0, 0) hb]
      rw [← ht, List.getElem?_take] at hu
      split at hu
      · simpa using hu
      · cases hu
/-- nothing appended -/
theorem run_append_zero {P : Program} (w : World) (t ty e : TypeId) (i : TypeInfo) (ht : P.underlying t = some (.slice e)) (hi : P.info? e = some i) (a o : Option Addr) (n cap c : Nat) (hn : n ≤ cap) :
    (Builtin.append_ #[t, t] ty #[.slice a n cap, .slice o 0 c]).run P w = .ok (.slice a n cap) w := by
  cases o with
  | none =>
    cases a with
    | none => simp [Builtin.append_, run_underlying ht, sizeOf, typeInfo, hi, Builtin.lenOf, Builtin.firstCells, hn]
    | some a => simp [Builtin.append_, run_underlying ht, sizeOf, typeInfo, hi, Builtin.lenOf, Builtin.firstCells, hn, storeCells]
  | some o =>
    cases a with
    | none => simp [Builtin.append_, run_underlying ht, sizeOf, typeInfo, hi, Builtin.lenOf, Builtin.firstCells, hn, loadCells, loadCellsFrom]
    | some a => simp [Builtin.append_, run_underlying ht, sizeOf, typeInfo, hi, Builtin.lenOf, Builtin.firstCells, hn, loadCells, loadCellsFrom, storeCells]
theorem own_of_grown {w : World} {B e sz n m old : Nat} {z : Value} {xs news : List Value} (hz : z.cells.size = sz) (hx : xs.length = n * sz) (hl : news.length = m * sz) (hB : B ≤ w.heap.size) (h63 : n + m ≤ maxLen) :
    (w.drew.alloc (.cells (xs.toArray ++ news.toArray ++ Builtin.zeroCells z.cells (grownCap w (n + m) old e - (n + m))) e)).ownsRow B e sz (.slice (some ⟨w.heap.size, 0, none⟩) (n + m) (grownCap w (n + m) old e)) (n + m) (xs ++ news) := by
  have hge := grownCap_ge w (n + m) old e
  have hcm : grownCap w (n + m) old e ≤ maxLen := grownCap_le_maxLen w (n + m) old e h63
  have hlen : (xs ++ news).length = (n + m) * sz := by rw [List.length_append, hx, hl, Nat.add_mul]
  refine ⟨hlen, .inr ⟨w.heap.size, _, _, rfl, hB, heap_alloc_new w.drew _, hge, hcm, ?_, ?_⟩⟩
  · simp only [Array.size_append, List.size_toArray, size_zeroCells, hx, hl, hz, ← Nat.add_mul]
    congr 1
    omega
  · simp only [Array.toList_append, List.append_assoc]
    rw [← List.append_assoc, ← hlen]
    exact List.take_left
theorem run_append_bs {P : Program} (w : World) (t ty e : TypeId) (i : TypeInfo) (z : Value) (sz B : Nat) (ht : P.underlying t = some (.slice e)) (hi : P.info? e = some i) (hz : i.zero = some z) (hs : i.size = sz) (hby : i.bytes ≤ 64) (hzs : z.cells.size = sz) (hsz : 0 < sz)
    (v : Value) (n : Nat) (cs : List Value) (h : Bs e sz B w v n cs) (o : Option Addr) (q c : Nat) (qs : List Value) (ho : Rd w e sz o q qs) (hB : B ≤ w.heap.size) (hn : n + q ≤ 100000000000) :
    ∃ v' w', (Builtin.append_ #[t, t] ty #[v, .slice o q c]).run P w = .ok v' w' ∧ Bs e sz B w' v' (n + q) (cs ++ qs) ∧ Below B w w' := by
  have hone : ∀ u ∈ cs ++ qs, u.oneCell' = true := by
    have h1 : ∀ u ∈ cs, u.oneCell' = true := by
      rcases h with ⟨_, _, h, _⟩ | ⟨h, _⟩
      · exact h.2.1
      · exact h
    intro u hu
    rcases List.mem_append.1 hu with hu | hu
    · exact h1 u hu
    · exact ho.2.1 u hu
  have hbb : ∀ m, m ≤ 100000000000 → (m + m / 4 + 192) * i.bytes ≤ 281474976710656 := fun m hm => by
    refine Nat.le_trans (Nat.mul_le_mul_left _ hby) ?_
    omega
  by_cases hq : q = 0
  · subst hq
    have hqs : qs = [] := List.eq_nil_of_length_eq_zero (by rw [ho.1]; omega)
    subst hqs
    obtain ⟨a, cap, rfl, hnc, _⟩ := h.read
    exact ⟨_, w, run_append_zero w t ty e i ht hi a o n cap c hnc, by simpa using h, Below.refl _ _⟩
  · obtain ⟨g2, off2, rfl, _, hq2⟩ := ho.2.2 (by omega)
    have hnews : ∀ j u, qs[j]? = some u → w.cell? ((⟨g2, off2, none⟩ : Addr).add j) = some u := fun j u hu => by rw [Addr.add_lit]; exact hq2 j u hu
    rcases h with ⟨a, rfl, h, hnone⟩ | ⟨_, h⟩
    · cases a with
      | none =>
        have h0 : n = 0 := by
          rcases hnone with ⟨_, h⟩ | ⟨_, _, h⟩
          · exact h
          · cases h
        subst h0
        have hcs : cs = [] := List.eq_nil_of_length_eq_zero (by rw [h.1]; omega)
        subst hcs
        have hr := run_append_nil (P := P) w t ty e i z ht hi hz ⟨g2, off2, none⟩ q c qs (by rw [hs]; exact ho.1) hnews (by omega) (by omega) (Nat.le_trans (Nat.mul_le_mul_right _ (by omega)) (hbb q (by omega)))
        have hw := own_of_grown (w := w) (B := B) (e := e) (n := 0) (m := q) (old := 0) (xs := []) hzs (by simp) ho.1 hB (by unfold maxLen; omega)
        simp only [Nat.zero_add, List.nil_append, Array.empty_append] at hw ⊢
        exact ⟨_, _, hr, .inr ⟨by simpa using hone, hw⟩, (Below.refl B w).drew.alloc hB _⟩
      | some a =>
        have hol : ∀ j u, cs[j]? = some u → w.cell? (a.add j) = some u := fun j u hu => by
          have hlt : 0 < n := by
            have := (List.getElem?_eq_some_iff.1 hu).1
            rw [h.1] at this
            exact Nat.pos_of_ne_zero (fun e => by subst e; omega)
          obtain ⟨g, off, e, _, h2⟩ := h.2.2 hlt
          cases e
          rw [Addr.add_lit]; exact h2 j u hu
        have hr := run_append_grow (P := P) w t ty e i z ht hi hz a n n cs (by rw [hs]; exact h.1) hol ⟨g2, off2, none⟩ q c qs (by rw [hs]; exact ho.1) hnews (by omega) (by omega) (growslice_fits_wide (by omega) (hbb _ hn))
        exact ⟨_, _, hr, .inr ⟨hone, own_of_grown hzs h.1 ho.1 hB (by unfold maxLen; omega)⟩, (Below.refl B w).drew.alloc hB _⟩
    · obtain ⟨v', w', hr, h2, h3, _⟩ := run_append_own_wide (P := P) w B t ty e i z sz i.bytes ht hi hz hs rfl hzs hsz v n cs h ⟨g2, off2, none⟩ q c qs ho.1 hnews ho.2.1 (by unfold maxLen; omega) (hbb _ hn) hB
      refine ⟨v', w', hr, .inr ⟨hone, h2⟩, ⟨h3.os, h3.tape, h3.output, h3.size, fun k hk => h3.block k (by omega) fun e => ?_⟩⟩
      have := (h.lt k e.symm).1
      omega
theorem step_append_bs {P : Program} {ops : Array Oper} {o : Oper} {a : Act} {K : Act → World → Prop} {Q : Exit → Act → World → Prop} {E : Prop} (hw : Region.wanted o (yielded ops a.tmps) = true) (dd : Tmp) (hdd : o.dst = some dd) (s x : Operand) (t : TypeId)
    (hop : o.op = .call { callee := .builtin .append, args := #[s, x], argTypes := #[t, t] }) (w : World) (e : TypeId) (i : TypeInfo) (z : Value) (sz B : Nat) (ht : P.underlying t = some (.slice e)) (hi : P.info? e = some i) (hz : i.zero = some z) (hs : i.size = sz) (hby : i.bytes ≤ 64) (hzs : z.cells.size = sz) (hsz : 0 < sz)
    (v : Value) (n : Nat) (cs : List Value) (h : Bs e sz B w v n cs) (ao : Option Addr) (q c : Nat) (qs : List Value) (hsv : a.eval s = v) (hx : a.eval x = .slice ao q c) (ho : Rd w e sz ao q qs) (hB : B ≤ w.heap.size) (hn : n + q ≤ 100000000000)
    (hk : ∀ v' w', Hid (Bs e sz B w' v' (n + q) (cs ++ qs)) → Hid (Below B w w') → K (a.put (some dd) v') w') : if Region.wanted o (yielded ops a.tmps) = true then Oper.wp P o a w K Q else E := by
  rw [if_pos hw]
  obtain ⟨v', w', hr, h2, h3⟩ := run_append_bs (P := P) w t o.type e i z sz B ht hi hz hs hby hzs hsz v n cs h ao q c qs ho hB hn
  unfold Oper.wp execOp
  simp only [hop, resolve, invoke, builtin, Sem.run_bind, Sem.run_pure, Result.andThen_ok, List.map_toArray, List.map_cons, List.map_nil, hsv, hx, hr]
  rw [← hdd] at hk
  exact hk v' w' h2 h3
end Go.Proofs.Ytnagknlfboadkaa.Oct

/- Layer 7 (tree): a tree in memory; 'get', 'depth', 'last'. -/
namespace Go.Proofs.Ytnagknlfboadkaa.Oct
open Go.RowKit

/-- a slice of nodes that can be read -/
def RdK (w : World) (a : Option Addr) (n : Nat) (bs : List Nat) : Prop :=
  bs.length = n ∧ (0 < n → ∃ g off, a = some ⟨g, off, none⟩ ∧ RowT w 46 g ∧ ∀ i b, bs[i]? = some b → w.cell? ⟨g, off + i, none⟩ = some (.pointer (some ⟨b, 0, none⟩)))
theorem RdK.below {w w' : World} {B : Nat} {a : Option Addr} {n : Nat} {bs : List Nat} (h : RdK w a n bs) (hb : Below B w w') (hB : w.heap.size ≤ B) : RdK w' a n bs := by
  refine ⟨h.1, fun hp => ?_⟩
  obtain ⟨g, off, e, h1, h2⟩ := h.2 hp
  have hgl := h1.lt
  exact ⟨g, off, e, h1.same (hb.block g (by omega)), fun i b hi => (hb.cell (p := ⟨g, _, none⟩) (by show g < B; omega)).trans (h2 i b hi)⟩
/-- a slice's room -/
def Cap (a : Option Addr) (n cap : Nat) : Prop := n ≤ cap ∧ Ad a cap
/-- a tree lies at a block -/
def Lies (w : World) : (d : Nat) → T d → Nat → Prop
  | 0, t, b => ∃ a n cap, Nd w b a n cap t (.slice none 0 0) ∧ Cap a n cap
  | d + 1, t, b => ∃ a n cap a' n' cap' bs, Nd w b a n cap t.1 (.slice a' n' cap') ∧ Cap a n cap ∧ RdK w a' n' bs ∧ Cap a' n' cap' ∧ bs.length = t.2.length ∧ ∀ (i : Nat) (k : T d) (b' : Nat), t.2[i]? = some k → bs[i]? = some b' → Lies w d k b'
theorem Lies.below {w w' : World} {B : Nat} (hb : Below B w w') (hB : w.heap.size ≤ B) : ∀ {d : Nat} {t : T d} {b : Nat}, Lies w d t b → Lies w' d t b
  | 0, _, _, h => by
    obtain ⟨a, n, cap, h1, h2⟩ := h
    exact ⟨a, n, cap, h1.below hb hB, h2⟩
  | d + 1, _, _, h => by
    obtain ⟨a, n, cap, a', n', cap', bs, h1, h2, h3, h4, h5, h6⟩ := h
    exact ⟨a, n, cap, a', n', cap', bs, h1.below hb hB, h2, h3.below hb hB, h4, h5, fun i k b' hi hb' => Lies.below hb hB (h6 i k b' hi hb')⟩
/-- its own node -/
theorem Lies.node {w : World} {d : Nat} {t : T d} {b : Nat} (h : Lies w d t b) : ∃ a n cap a' n' cap', Nd w b a n cap (prs d t) (.slice a' n' cap') ∧ Cap a n cap ∧ (d = 0 → a' = none ∧ n' = 0 ∧ cap' = 0) := by
  cases d with
  | zero =>
    obtain ⟨a, n, cap, h1, h2⟩ := h
    exact ⟨a, n, cap, none, 0, 0, h1, h2, fun _ => ⟨rfl, rfl, rfl⟩⟩
  | succ d =>
    obtain ⟨a, n, cap, a', n', cap', bs, h1, h2, _⟩ := h
    exact ⟨a, n, cap, a', n', cap', h1, h2, fun e => by cases e⟩
/-- a good tree: its keys rise, its nodes are neither too small nor too great (its root may be small) -/
structure Good (d : Nat) (t : T d) : Prop where
  wf : WF d t
  ris : Ris (tl d t)
  most : (prs d t).length ≤ 7
theorem Good.kid {d : Nat} {t : T (d + 1)} (h : Good (d + 1) t) {i : Nat} {k : T d} (hk : t.2[i]? = some k) : Good d k ∧ 3 ≤ (prs d k).length := by
  have hm := h.wf.2 k (List.mem_of_getElem? hk)
  refine ⟨⟨hm.1, ?_, hm.2.2⟩, hm.2.1⟩
  have hr : Ris (inter (t.2.map (tl d)) t.1) := h.ris
  rw [inter_at i (tl d k) (by simpa using h.wf.1) (kid_map hk)] at hr
  exact hr.left.right
theorem blk_uniq {w : World} {b : Nat} {t t' : TypeId} {x y x' y' : Value} (h : Blk w b t [x, y]) (h' : Blk w b t' [x', y']) : x = x' ∧ y = y' := by
  have e0 := (h.cell (i := 0) rfl).symm.trans (h'.cell (i := 0) rfl)
  have e1 := (h.cell (i := 1) rfl).symm.trans (h'.cell (i := 1) rfl)
  exact ⟨Option.some.inj e0, Option.some.inj e1⟩
/-- what is told of the pairs of a key -/
def gv : List Pr → ByteArray
  | [] => ⟨#[]⟩
  | x :: _ => x.2
theorem isLeaf_any (w : World) (nd : Nat) (a : Option Addr) (n cap : Nat) (b : Bool) (hb : ((n : Int) == 0) = b) (h : w.cell? ⟨nd, 1, none⟩ = some (.slice a n cap)) : Calls Try.prog 39 #[.pointer (some ⟨nd, 0, none⟩)] w fun e w' => e = .returned (.bool b) ∧ w = w' := by
  go_enter Try.func39, Try.ntmps39
  go_wp2
  go_ret
  exact ⟨rfl, rfl⟩

set_option maxRecDepth 100000 in
set_option maxHeartbeats 1000000 in
theorem get_is (w : World) (d : Nat) (t : T d) (nd : Nat) (key : ByteArray) (h : Lies w d t nd) (hg : Good d t) :
    Calls Try.prog 30 #[.pointer (some ⟨nd, 0, none⟩), .string key] w fun e w' => e = .returned (.tuple #[.string (gv (eqs key (tl d t))), .bool (!(eqs key (tl d t)).isEmpty)]) ∧ Hid (Below w.heap.size w w') := by
  have HL : Hid (Lies w d t nd ∧ Good d t) := ⟨h, hg⟩
  obtain ⟨E, hE⟩ : ∃ E, eqs key (tl d t) = E := ⟨_, rfl⟩
  rw [hE]
  have HE : Hid (eqs key (tl d t) = E) := hE
  clear h hg hE
  go_enter Try.func30, Try.ntmps30
  go_wp2
  go_loopg [0] d (fun k u wr => ∃ (t' : T k) (nd' : Nat), u = .pointer (some ⟨nd', 0, none⟩) ∧ Hid (Lies wr k t' nd') ∧ Hid (Good k t') ∧ Hid (eqs key (tl k t') = E) ∧ Hid (Below w.heap.size w wr))
  case atStart => exact ⟨t, nd, rfl, HL.out.1, HL.out.2, HE, Below.refl _ _⟩
  case round =>
    obtain ⟨t', nd', rfl, HL1, HG1, HE1, HB1⟩ := hrel
    obtain ⟨a, n, cap, a', n', cap', hnd, hnc, h00⟩ := HL1.out.node
    have HD1 : Hid (Nd wr nd' a n cap (prs gk t') (.slice a' n' cap')) := hnd
    have hrp : Ris (prs gk t') := ris_prs HG1.out.ris HG1.out.wf
    have HRP : Hid (Ris (prs gk t')) := hrp
    have HN : Hid (n ≤ 7) := by show n ≤ 7; rw [← hnd.rd.1]; exact HG1.out.most
    have H00 : Hid (gk = 0 → a' = none ∧ n' = 0 ∧ cap' = 0) := h00
    clear hnd hnc h00 hrp
    go_wp2_with fail
    refine (place_is wr nd' a n cap _ _ key HD1.out (ris_mono HRP.out key) (by have := HN.out; omega)).mono ?_
    rintro e w1 ⟨i, rfl, HA, HB2⟩
    have HD2 : Hid (Nd w1 nd' a n cap (prs gk t') (.slice a' n' cap')) := HD1.out.below HB2.out (Nat.le_refl _)
    have HW : Hid (Below w.heap.size w w1) := HB1.out.trans (HB2.out.mono HB1.out.size)
    have HL2 : Hid (Lies w1 gk t' nd') := HL1.out.below HB2.out (Nat.le_refl _)
    have c0 := HD2.out.blk.cell (i := 0) rfl
    have c1 := HD2.out.blk.cell (i := 1) rfl
    have hin : i ≤ n := by rw [← HD1.out.rd.1]; exact HA.out.1
    cases hi : isP (prs gk t') key i with
    | true =>
      obtain ⟨x, hx, hxk, hex⟩ := eqs_is HRP.out HA.out hi
      have HEx : Hid (E = [x]) := by
        show E = [x]
        rw [← HE1.out]
        cases gk with
        | zero => exact hex
        | succ d' =>
          obtain ⟨A, B, e, _, _, hA, hB⟩ := node_is (ts := t'.2) HG1.out.wf.1 HG1.out.ris hx
          have : eqs key (tl (d' + 1) t') = eqs key (A ++ x :: B) := congrArg _ e
          rw [this, ← hxk]
          exact eqs_one hA hB
      have hlt : i < n := by rw [← HD1.out.rd.1]; exact (List.getElem?_eq_some_iff.1 hx).1
      obtain ⟨g, off, rfl, hg, hc⟩ := HD2.out.rd.2 (by omega)
      have c2 := (hc i x hx).2
      have q1 : (i : Int) < (n : Int) := by omega
      have HX2 : Hid (gv E = x.2) := by show _ = _; rw [HEx.out]; rfl
      have HX3 : Hid ((!E.isEmpty) = true) := by show _ = _; rw [HEx.out]; rfl
      generalize x.2 = y at *
      clear hc hex
      go_wp2
      go_ret2
      exact ⟨by rw [HX2.out, HX3.out]; rfl, HW⟩
    | false =>
      have HI : Hid (isP (prs gk t') key i = false) := hi
      have hno := eqs_no HRP.out HA.out hi
      clear hi
      cases gk with
      | zero =>
        obtain ⟨rfl, rfl, rfl⟩ := H00.out rfl
        have HX2 : Hid (E = []) := by show E = []; rw [← HE1.out]; exact hno
        clear hno
        go_wp2_with (go_at_call 39; refine (leaf_is w1 nd' c1).mono ?_; rintro e w2 ⟨rfl, rfl⟩)
        go_ret2
        exact ⟨by rw [HX2.out]; rfl, HW⟩
      | succ d' =>
        clear hno
        obtain ⟨a2, n2, cap2, a3, n3, cap3, bs, h1, h2, h3, h4, h5, h6⟩ := HL2.out
        obtain ⟨e1, e2⟩ := blk_uniq h1.blk HD2.out.blk
        cases e1; cases e2
        have hnn : n' = n + 1 := by rw [← h3.1, h5, HG1.out.wf.1]; exact congrArg (· + 1) h1.rd.1
        have hlt : i < n' := by omega
        obtain ⟨g, off, rfl, hg, hc⟩ := h3.2 (by omega)
        have hib : i < bs.length := by rw [h3.1]; exact hlt
        have hit : i < t'.2.length := by rw [← h5]; exact hib
        have c2 := hc i _ (List.getElem?_eq_getElem hib)
        have HK : Hid (t'.2[i]? = some t'.2[i]) := List.getElem?_eq_getElem hit
        have HL3 : Hid (Lies w1 d' t'.2[i] bs[i]) := h6 i _ _ HK.out (List.getElem?_eq_getElem hib)
        have HE3 : Hid (eqs key (tl d' t'.2[i]) = E) := by
          show _ = _
          obtain ⟨A, B, e, _, _, hA, hB, _⟩ := node_at (ts := t'.2) HG1.out.wf.1 HG1.out.ris HRP.out HA.out HK.out HI.out
          have e' : eqs key (tl (d' + 1) t') = eqs key (A ++ tl d' t'.2[i] ++ B) := congrArg _ e
          rw [← HE1.out, e', eqs_mid hA hB]
        have q1 : (i : Int) < (n' : Int) := by omega
        have HB0 : Hid (((n' : Int) == 0) = false) := by show _ = _; simp; omega
        generalize bs[i] = b2 at *
        clear h1 h2 h3 h4 h6 hc
        go_wp2_with (go_at_call 39; refine (isLeaf_any w1 nd' _ n' cap' false HB0.out c1).mono ?_; rintro e w2 ⟨rfl, rfl⟩)
        go_roundg d'
        case measure => omega
        case rel => exact ⟨t'.2[i], b2, rfl, HL3, (HG1.out.kid HK.out).1, HE3, HW⟩
end Go.Proofs.Ytnagknlfboadkaa.Oct

/- Layer 7 (tree): 'part' and 'spliced' of pairs and of nodes, whatever is put in. -/
namespace Go.Proofs.Ytnagknlfboadkaa.Oct
open Go.RowKit
theorem partP_nil (w : World) : Calls Try.prog 48 #[.slice none 0 0, .int .i64 0, .int .i64 0] w fun e w' => e = .returned (.slice none 0 0) ∧ w = w' := by
  go_enter Try.func48, Try.ntmps48
  go_wp2
  go_ret
  exact ⟨rfl, rfl⟩
theorem partP_zero (w : World) (g off n cap j : Nat) (h2 : j ≤ cap) : Calls Try.prog 48 #[.slice (some ⟨g, off, none⟩) n cap, .int .i64 0, .int .i64 (j : Int)] w fun e w' => e = .returned (.slice (some ⟨g, off, none⟩) j j) ∧ w = w' := by
  have q3 : (j : Int) ≤ (cap : Int) := by omega
  go_enter Try.func48, Try.ntmps48
  go_wp2
  go_ret
  exact ⟨rfl, rfl⟩
theorem infoP : (Try.prog.info? 40).map (fun i => (i.zero, i.size, i.bytes)) = some (some (.agg #[.string ⟨#[]⟩, .string ⟨#[]⟩]), 2, 32) := by kernel_rfl
set_option maxRecDepth 100000 in
set_option maxHeartbeats 1000000 in
theorem splP (w : World) (a : Option Addr) (n cap i j : Nat) (I J : Int) (hI : I = (i : Int)) (hJ : J = (j : Int)) (cs : List Value) (o : Option Addr) (q c : Nat) (qs : List Value) (h : Rd w 40 2 a n cs) (hac : Ad a cap) (hnc : n ≤ cap) (hij : i ≤ j) (hjn : j ≤ n) (ho : Rd w 40 2 o q qs) (hb : n + q ≤ 1000000) :
    Calls Try.prog 40 #[.slice a n cap, .int .i64 I, .int .i64 J, .slice o q c] w fun e w' => ∃ (a' : Option Addr) (n' cap' : Nat) (cs' : List Value), e = .returned (.slice a' n' cap') ∧ Hid (cs' = cs.take (i * 2) ++ qs ++ cs.drop (j * 2) ∧ n' = i + q + (n - j) ∧ n' ≤ cap' ∧ Ad a' cap') ∧ Hid (Rd w' 40 2 a' n' cs') ∧ Hid (Below w.heap.size w w') := by
  subst hI; subst hJ
  obtain ⟨i0, hi0, hii⟩ := Option.map_eq_some_iff.1 infoP
  simp only [Prod.mk.injEq] at hii
  have HO : Hid (Rd w.drew 40 2 o q qs) := ho.below (Below.refl _ w).drew (Nat.le_refl _)
  have HN : Hid (n + q ≤ 1000000 ∧ i ≤ j ∧ j ≤ n ∧ n ≤ cap) := ⟨hb, hij, hjn, hnc⟩
  have HB1 : Hid (Bs 40 2 w.heap.size w.drew (.slice a i i) i (cs.take (i * 2))) := .inl ⟨a, rfl, (h.below (Below.refl _ w).drew (Nat.le_refl _)).take (by omega), by
    rcases hac with ⟨rfl, rfl⟩ | ⟨g, off, rfl⟩
    · exact .inl ⟨rfl, by omega⟩
    · exact .inr ⟨g, off, rfl⟩⟩
  have hby : i0.bytes ≤ 64 := by rw [hii.2.2]; omega
  rcases hac with ⟨rfl, rfl⟩ | ⟨g, off, rfl⟩
  · have hn0 : n = 0 := by omega
    subst hn0
    have hj0 : j = 0 := by omega
    subst hj0
    have hi0' : i = 0 := by omega
    subst hi0'
    have HD : Hid (∀ W, Rd W 40 2 none 0 (cs.drop (0 * 2))) := fun W => by
      have : cs = [] := List.eq_nil_of_length_eq_zero (by simpa using h.1)
      rw [this]; exact Rd.nil W 40 2 none
    obtain ⟨T1, hT1⟩ : ∃ T1, cs.take (0 * 2) = T1 := ⟨_, rfl⟩
    obtain ⟨T2, hT2⟩ : ∃ T2, cs.drop (0 * 2) = T2 := ⟨_, rfl⟩
    rw [hT1] at HB1 ⊢
    rw [hT2] at HD ⊢
    clear h hnc hij hjn ho hb hT1 hT2
    go_enter Try.func40, Try.ntmps40
    go_wp2
    go_region_held_law (fun _ => True) (trivial) (first
      | (go_at_call 48; refine (partP_nil w.drew).mono ?_; rintro e w2 ⟨rfl, rfl⟩)
      | (refine step_append_bs (by rfl) 13 rfl _ _ 27 rfl w.drew 40 i0 _ 2 w.heap.size Try.underlying27 hi0 hii.1 hii.2.1 hby rfl (by omega) (.slice none 0 0) 0 T1 HB1.out o q c qs rfl rfl HO.out (Nat.le_refl _) (by have := HN.out; omega) ?_; intro v3 w3 HO3 HB3; obtain ⟨a3, cap3, rfl, _⟩ := HO3.out.read)
      | (refine step_append_bs (by rfl) 17 rfl _ _ 27 rfl w3 40 i0 _ 2 w.heap.size Try.underlying27 hi0 hii.1 hii.2.1 hby rfl (by omega) _ _ _ HO3.out none 0 0 T2 rfl rfl (HD.out w3) HB3.out.size (by have := HN.out; omega) ?_; intro v4 w4 HO4 HB4; obtain ⟨a4, cap4, rfl, h4, h5, h6⟩ := HO4.out.read))
    have e4 : 0 + q + 0 = q := by omega
    rw [e4] at h4 h5
    go_wp2
    go_ret
    exact ⟨a4, q, cap4, _, rfl, ⟨rfl, by omega, h4, h6⟩, h5, ((Below.refl _ w).drew.trans HB3.out).trans HB4.out⟩
  · have q1 : (0 : Int) ≤ (j : Int) := by omega
    have q2 : (j : Int) ≤ (n : Int) := by omega
    have q3 : (n : Int) ≤ (cap : Int) := by omega
    have q5 : i ≤ cap := by omega
    by_cases hcj : cap = j
    · have hjn' : j = n := by omega
      subst hcj
      subst hjn'
      have HD : Hid (∀ W, Rd W 40 2 (some ⟨g, off, none⟩) 0 (cs.drop (cap * 2))) := fun W => by
        rw [List.drop_eq_nil_of_le (by rw [h.1]; exact Nat.le_refl _)]; exact Rd.nil W 40 2 _
      obtain ⟨T1, hT1⟩ : ∃ T1, cs.take (i * 2) = T1 := ⟨_, rfl⟩
      obtain ⟨T2, hT2⟩ : ∃ T2, cs.drop (cap * 2) = T2 := ⟨_, rfl⟩
      rw [hT1] at HB1 ⊢
      rw [hT2] at HD ⊢
      clear h hnc hij hjn ho hb hT1 hT2
      go_enter Try.func40, Try.ntmps40
      go_wp2
      go_region_held_law (fun _ => True) (trivial) (first
        | (go_at_call 48; refine (partP_zero w.drew g off cap cap i q5).mono ?_; rintro e w2 ⟨rfl, rfl⟩)
        | (refine step_append_bs (by rfl) 13 rfl _ _ 27 rfl w.drew 40 i0 _ 2 w.heap.size Try.underlying27 hi0 hii.1 hii.2.1 hby rfl (by omega) (.slice (some ⟨g, off, none⟩) i i) i T1 HB1.out o q c qs rfl rfl HO.out (Nat.le_refl _) (by have := HN.out; omega) ?_; intro v3 w3 HO3 HB3; obtain ⟨a3, cap3, rfl, _⟩ := HO3.out.read)
        | (refine step_append_bs (by rfl) 17 rfl _ _ 27 rfl w3 40 i0 _ 2 w.heap.size Try.underlying27 hi0 hii.1 hii.2.1 hby rfl (by omega) _ _ _ HO3.out (some ⟨g, off, none⟩) 0 0 T2 rfl rfl (HD.out w3) HB3.out.size (by have := HN.out; omega) ?_; intro v4 w4 HO4 HB4; obtain ⟨a4, cap4, rfl, h4, h5, h6⟩ := HO4.out.read))
      go_wp2
      go_ret
      exact ⟨a4, _, cap4, _, rfl, ⟨rfl, by omega, h4, h6⟩, h5, ((Below.refl _ w).drew.trans HB3.out).trans HB4.out⟩
    · have HD : Hid (∀ W, Below w.heap.size w W → Rd W 40 2 (some ⟨g, off + j * 2, none⟩) (n - j) (cs.drop (j * 2))) := fun W hW => (h.below hW (Nat.le_refl _)).drop hjn
      have q4 : ¬ cap - j = 0 := by omega
      obtain ⟨T1, hT1⟩ : ∃ T1, cs.take (i * 2) = T1 := ⟨_, rfl⟩
      obtain ⟨T2, hT2⟩ : ∃ T2, cs.drop (j * 2) = T2 := ⟨_, rfl⟩
      rw [hT1] at HB1 ⊢
      rw [hT2] at HD ⊢
      clear h hnc hij hjn ho hb hT1 hT2 hcj
      go_enter Try.func40, Try.ntmps40
      go_wp2
      go_region_held_law (fun _ => True) (trivial) (first
        | (go_at_call 48; refine (partP_zero w.drew g off n cap i q5).mono ?_; rintro e w2 ⟨rfl, rfl⟩)
        | (refine step_append_bs (by rfl) 13 rfl _ _ 27 rfl w.drew 40 i0 _ 2 w.heap.size Try.underlying27 hi0 hii.1 hii.2.1 hby rfl (by omega) (.slice (some ⟨g, off, none⟩) i i) i T1 HB1.out o q c qs rfl rfl HO.out (Nat.le_refl _) (by have := HN.out; omega) ?_; intro v3 w3 HO3 HB3; obtain ⟨a3, cap3, rfl, _⟩ := HO3.out.read)
        | (refine step_append_bs (by rfl) 17 rfl _ _ 27 rfl w3 40 i0 _ 2 w.heap.size Try.underlying27 hi0 hii.1 hii.2.1 hby rfl (by omega) _ _ _ HO3.out (some ⟨g, off + j * 2, none⟩) (n - j) (cap - j) T2 rfl rfl (HD.out w3 ((Below.refl _ w).drew.trans HB3.out)) HB3.out.size (by have := HN.out; omega) ?_; intro v4 w4 HO4 HB4; obtain ⟨a4, cap4, rfl, h4, h5, h6⟩ := HO4.out.read))
      go_wp2
      go_ret
      exact ⟨a4, _, cap4, _, rfl, ⟨rfl, rfl, h4, h6⟩, h5, ((Below.refl _ w).drew.trans HB3.out).trans HB4.out⟩
theorem partK_nil (w : World) : Calls Try.prog 50 #[.slice none 0 0, .int .i64 0, .int .i64 0] w fun e w' => e = .returned (.slice none 0 0) ∧ w = w' := by
  go_enter Try.func50, Try.ntmps50
  go_wp2
  go_ret
  exact ⟨rfl, rfl⟩
theorem partK_zero (w : World) (g off n cap j : Nat) (h2 : j ≤ cap) : Calls Try.prog 50 #[.slice (some ⟨g, off, none⟩) n cap, .int .i64 0, .int .i64 (j : Int)] w fun e w' => e = .returned (.slice (some ⟨g, off, none⟩) j j) ∧ w = w' := by
  have q3 : (j : Int) ≤ (cap : Int) := by omega
  go_enter Try.func50, Try.ntmps50
  go_wp2
  go_ret
  exact ⟨rfl, rfl⟩
theorem infoK : (Try.prog.info? 46).map (fun i => (i.zero, i.size, i.bytes)) = some (some (.pointer none), 1, 8) := by kernel_rfl
set_option maxRecDepth 100000 in
set_option maxHeartbeats 1000000 in
theorem splK (w : World) (a : Option Addr) (n cap i j : Nat) (I J : Int) (hI : I = (i : Int)) (hJ : J = (j : Int)) (cs : List Value) (o : Option Addr) (q c : Nat) (qs : List Value) (h : Rd w 46 1 a n cs) (hac : Ad a cap) (hnc : n ≤ cap) (hij : i ≤ j) (hjn : j ≤ n) (ho : Rd w 46 1 o q qs) (hb : n + q ≤ 1000000) :
    Calls Try.prog 45 #[.slice a n cap, .int .i64 I, .int .i64 J, .slice o q c] w fun e w' => ∃ (a' : Option Addr) (n' cap' : Nat) (cs' : List Value), e = .returned (.slice a' n' cap') ∧ Hid (cs' = cs.take (i * 1) ++ qs ++ cs.drop (j * 1) ∧ n' = i + q + (n - j) ∧ n' ≤ cap' ∧ Ad a' cap') ∧ Hid (Rd w' 46 1 a' n' cs') ∧ Hid (Below w.heap.size w w') := by
  subst hI; subst hJ
  obtain ⟨i0, hi0, hii⟩ := Option.map_eq_some_iff.1 infoK
  simp only [Prod.mk.injEq] at hii
  have HO : Hid (Rd w.drew 46 1 o q qs) := ho.below (Below.refl _ w).drew (Nat.le_refl _)
  have HN : Hid (n + q ≤ 1000000 ∧ i ≤ j ∧ j ≤ n ∧ n ≤ cap) := ⟨hb, hij, hjn, hnc⟩
  have HB1 : Hid (Bs 46 1 w.heap.size w.drew (.slice a i i) i (cs.take (i * 1))) := .inl ⟨a, rfl, (h.below (Below.refl _ w).drew (Nat.le_refl _)).take (by omega), by
    rcases hac with ⟨rfl, rfl⟩ | ⟨g, off, rfl⟩
    · exact .inl ⟨rfl, by omega⟩
    · exact .inr ⟨g, off, rfl⟩⟩
  have hby : i0.bytes ≤ 64 := by rw [hii.2.2]; omega
  rcases hac with ⟨rfl, rfl⟩ | ⟨g, off, rfl⟩
  · have hn0 : n = 0 := by omega
    subst hn0
    have hj0 : j = 0 := by omega
    subst hj0
    have hi0' : i = 0 := by omega
    subst hi0'
    have HD : Hid (∀ W, Rd W 46 1 none 0 (cs.drop (0 * 1))) := fun W => by
      have : cs = [] := List.eq_nil_of_length_eq_zero (by simpa using h.1)
      rw [this]; exact Rd.nil W 46 1 none
    obtain ⟨T1, hT1⟩ : ∃ T1, cs.take (0 * 1) = T1 := ⟨_, rfl⟩
    obtain ⟨T2, hT2⟩ : ∃ T2, cs.drop (0 * 1) = T2 := ⟨_, rfl⟩
    rw [hT1] at HB1 ⊢
    rw [hT2] at HD ⊢
    clear h hnc hij hjn ho hb hT1 hT2
    go_enter Try.func45, Try.ntmps45
    go_wp2
    go_region_held_law (fun _ => True) (trivial) (first
      | (go_at_call 50; refine (partK_nil w.drew).mono ?_; rintro e w2 ⟨rfl, rfl⟩)
      | (refine step_append_bs (by rfl) 13 rfl _ _ 65 rfl w.drew 46 i0 _ 1 w.heap.size Try.underlying65 hi0 hii.1 hii.2.1 hby rfl (by omega) (.slice none 0 0) 0 T1 HB1.out o q c qs rfl rfl HO.out (Nat.le_refl _) (by have := HN.out; omega) ?_; intro v3 w3 HO3 HB3; obtain ⟨a3, cap3, rfl, _⟩ := HO3.out.read)
      | (refine step_append_bs (by rfl) 17 rfl _ _ 65 rfl w3 46 i0 _ 1 w.heap.size Try.underlying65 hi0 hii.1 hii.2.1 hby rfl (by omega) _ _ _ HO3.out none 0 0 T2 rfl rfl (HD.out w3) HB3.out.size (by have := HN.out; omega) ?_; intro v4 w4 HO4 HB4; obtain ⟨a4, cap4, rfl, h4, h5, h6⟩ := HO4.out.read))
    have e4 : 0 + q + 0 = q := by omega
    rw [e4] at h4 h5
    go_wp2
    go_ret
    exact ⟨a4, q, cap4, _, rfl, ⟨rfl, by omega, h4, h6⟩, h5, ((Below.refl _ w).drew.trans HB3.out).trans HB4.out⟩
  · have q1 : (0 : Int) ≤ (j : Int) := by omega
    have q2 : (j : Int) ≤ (n : Int) := by omega
    have q3 : (n : Int) ≤ (cap : Int) := by omega
    have q5 : i ≤ cap := by omega
    by_cases hcj : cap = j
    · have hjn' : j = n := by omega
      subst hcj
      subst hjn'
      have HD : Hid (∀ W, Rd W 46 1 (some ⟨g, off, none⟩) 0 (cs.drop (cap * 1))) := fun W => by
        rw [List.drop_eq_nil_of_le (by rw [h.1]; exact Nat.le_refl _)]; exact Rd.nil W 46 1 _
      obtain ⟨T1, hT1⟩ : ∃ T1, cs.take (i * 1) = T1 := ⟨_, rfl⟩
      obtain ⟨T2, hT2⟩ : ∃ T2, cs.drop (cap * 1) = T2 := ⟨_, rfl⟩
      rw [hT1] at HB1 ⊢
      rw [hT2] at HD ⊢
      clear h hnc hij hjn ho hb hT1 hT2
      go_enter Try.func45, Try.ntmps45
      go_wp2
      go_region_held_law (fun _ => True) (trivial) (first
        | (go_at_call 50; refine (partK_zero w.drew g off cap cap i q5).mono ?_; rintro e w2 ⟨rfl, rfl⟩)
        | (refine step_append_bs (by rfl) 13 rfl _ _ 65 rfl w.drew 46 i0 _ 1 w.heap.size Try.underlying65 hi0 hii.1 hii.2.1 hby rfl (by omega) (.slice (some ⟨g, off, none⟩) i i) i T1 HB1.out o q c qs rfl rfl HO.out (Nat.le_refl _) (by have := HN.out; omega) ?_; intro v3 w3 HO3 HB3; obtain ⟨a3, cap3, rfl, _⟩ := HO3.out.read)
        | (refine step_append_bs (by rfl) 17 rfl _ _ 65 rfl w3 46 i0 _ 1 w.heap.size Try.underlying65 hi0 hii.1 hii.2.1 hby rfl (by omega) _ _ _ HO3.out (some ⟨g, off, none⟩) 0 0 T2 rfl rfl (HD.out w3) HB3.out.size (by have := HN.out; omega) ?_; intro v4 w4 HO4 HB4; obtain ⟨a4, cap4, rfl, h4, h5, h6⟩ := HO4.out.read))
      go_wp2
      go_ret
      exact ⟨a4, _, cap4, _, rfl, ⟨rfl, by omega, h4, h6⟩, h5, ((Below.refl _ w).drew.trans HB3.out).trans HB4.out⟩
    · have HD : Hid (∀ W, Below w.heap.size w W → Rd W 46 1 (some ⟨g, off + j, none⟩) (n - j) (cs.drop (j * 1))) := fun W hW => by
        have e := (h.below hW (Nat.le_refl _)).drop hjn
        rw [show off + j * 1 = off + j by omega] at e
        exact e
      have q4 : ¬ cap - j = 0 := by omega
      obtain ⟨T1, hT1⟩ : ∃ T1, cs.take (i * 1) = T1 := ⟨_, rfl⟩
      obtain ⟨T2, hT2⟩ : ∃ T2, cs.drop (j * 1) = T2 := ⟨_, rfl⟩
      rw [hT1] at HB1 ⊢
      rw [hT2] at HD ⊢
      clear h hnc hij hjn ho hb hT1 hT2 hcj
      go_enter Try.func45, Try.ntmps45
      go_wp2
      go_region_held_law (fun _ => True) (trivial) (first
        | (go_at_call 50; refine (partK_zero w.drew g off n cap i q5).mono ?_; rintro e w2 ⟨rfl, rfl⟩)
        | (refine step_append_bs (by rfl) 13 rfl _ _ 65 rfl w.drew 46 i0 _ 1 w.heap.size Try.underlying65 hi0 hii.1 hii.2.1 hby rfl (by omega) (.slice (some ⟨g, off, none⟩) i i) i T1 HB1.out o q c qs rfl rfl HO.out (Nat.le_refl _) (by have := HN.out; omega) ?_; intro v3 w3 HO3 HB3; obtain ⟨a3, cap3, rfl, _⟩ := HO3.out.read)
        | (refine step_append_bs (by rfl) 17 rfl _ _ 65 rfl w3 46 i0 _ 1 w.heap.size Try.underlying65 hi0 hii.1 hii.2.1 hby rfl (by omega) _ _ _ HO3.out (some ⟨g, off + j, none⟩) (n - j) (cap - j) T2 rfl rfl (HD.out w3 ((Below.refl _ w).drew.trans HB3.out)) HB3.out.size (by have := HN.out; omega) ?_; intro v4 w4 HO4 HB4; obtain ⟨a4, cap4, rfl, h4, h5, h6⟩ := HO4.out.read))
      go_wp2
      go_ret
      exact ⟨a4, _, cap4, _, rfl, ⟨rfl, rfl, h4, h6⟩, h5, ((Below.refl _ w).drew.trans HB3.out).trans HB4.out⟩
end Go.Proofs.Ytnagknlfboadkaa.Oct

/- Layer 7 (tree): 'part' and 'spliced' of pairs. -/
namespace Go.Proofs.Ytnagknlfboadkaa.Oct
open Go.RowKit

theorem flat_get : ∀ (ps : List Pr) (j : Nat), (ps.flatMap pc)[j]? = (ps[j / 2]?).map (fun x => if j % 2 = 0 then Value.string x.1 else Value.string x.2)
  | [], j => by simp
  | x :: r, 0 => by simp [pc]
  | x :: r, 1 => by simp [pc]
  | x :: r, j + 2 => by
    have ih := flat_get r j
    have e : (List.flatMap pc (x :: r))[j + 2]? = (r.flatMap pc)[j]? := by simp [pc]
    rw [e, ih, show (j + 2) / 2 = j / 2 + 1 by omega, List.getElem?_cons_succ, show (j + 2) % 2 = j % 2 by omega]
theorem flat_len (ps : List Pr) : (ps.flatMap pc).length = ps.length * 2 := by
  induction ps with
  | nil => rfl
  | cons x r ih => rw [List.flatMap_cons, List.length_append, ih, List.length_cons]; simp [pc]; omega
theorem flat_one (ps : List Pr) : ∀ u ∈ ps.flatMap pc, u.oneCell' = true := by
  intro u hu
  obtain ⟨x, _, hx⟩ := List.mem_flatMap.1 hu
  simp only [pc, List.mem_cons, List.not_mem_nil, or_false] at hx
  rcases hx with rfl | rfl <;> rfl
theorem RdP.cells {w : World} {g off n : Nat} {ps : List Pr} (h : RdP w (some ⟨g, off, none⟩) n ps) : ∀ j u, (ps.flatMap pc)[j]? = some u → w.cell? ⟨g, off + j, none⟩ = some u := by
  intro j u hu
  rw [flat_get] at hu
  obtain ⟨x, hx, rfl⟩ := Option.map_eq_some_iff.1 hu
  have hlt := (List.getElem?_eq_some_iff.1 hx).1
  obtain ⟨g', off', e, _, hc⟩ := h.2 (by rw [← h.1]; omega)
  cases e
  have := hc _ x hx
  split
  · rw [show off + j = off + j / 2 * 2 by omega]; exact this.1
  · rw [show off + j = off + j / 2 * 2 + 1 by omega]; exact this.2
theorem rd_of_cells {w : World} {g off : Nat} {ps : List Pr} (hg : 0 < ps.length → RowT w 40 g) (h : ∀ j u, (ps.flatMap pc)[j]? = some u → w.cell? ⟨g, off + j, none⟩ = some u) : RdP w (some ⟨g, off, none⟩) ps.length ps := by
  refine ⟨rfl, fun hp => ⟨g, off, rfl, hg hp, fun k x hk => ⟨?_, ?_⟩⟩⟩
  · exact h (k * 2) _ (by rw [flat_get, show k * 2 / 2 = k by omega, hk]; simp)
  · have := h (k * 2 + 1) (.string x.2) (by rw [flat_get, show (k * 2 + 1) / 2 = k by omega, hk]; simp)
    exact this
theorem RdP.take {w : World} {g off n : Nat} {ps : List Pr} (h : RdP w (some ⟨g, off, none⟩) n ps) {i : Nat} (hi : i ≤ n) : RdP w (some ⟨g, off, none⟩) i (ps.take i) := by
  refine ⟨by rw [List.length_take, h.1]; omega, fun hp => ?_⟩
  obtain ⟨g', off', e, h1, hc⟩ := h.2 (by omega)
  cases e
  refine ⟨g, off, rfl, h1, fun k x hk => hc k x ?_⟩
  rw [List.getElem?_take] at hk
  split at hk
  · exact hk
  · cases hk
theorem RdP.drop {w : World} {g off n : Nat} {ps : List Pr} (h : RdP w (some ⟨g, off, none⟩) n ps) {j : Nat} (hj : j ≤ n) : RdP w (some ⟨g, off + j * 2, none⟩) (n - j) (ps.drop j) := by
  refine ⟨by rw [List.length_drop, h.1], fun hp => ?_⟩
  obtain ⟨g', off', e, h1, hc⟩ := h.2 (by omega)
  cases e
  refine ⟨g, _, rfl, h1, fun k x hk => ?_⟩
  rw [List.getElem?_drop] at hk
  have := hc _ x hk
  rw [show off + (j + k) * 2 = off + j * 2 + k * 2 by omega] at this
  exact this
theorem own_rd {w : World} {B : Nat} {v : Value} {ps : List Pr} (h : w.ownsRow B 40 2 v ps.length (ps.flatMap pc)) (hp : 0 < ps.length) : ∃ g cap, v = .slice (some ⟨g, 0, none⟩) ps.length cap ∧ RdP w (some ⟨g, 0, none⟩) ps.length ps ∧ B ≤ g ∧ ps.length ≤ cap := by
  rcases h.2 with ⟨_, e⟩ | ⟨g, cap, cur, rfl, hB, hb, hn, _, _, ht⟩
  · omega
  · refine ⟨g, cap, rfl, rd_of_cells (fun _ => ⟨_, _, hb⟩) fun j u hu => ?_, hB, hn⟩
    rw [Nat.zero_add, cell_of_row w g j _ 40 (0, 0) hb]
    rw [← ht, List.getElem?_take] at hu
    split at hu
    · simpa using hu
    · cases hu
theorem info40 : (Try.prog.info? 40).map (fun i => (i.zero, i.size, i.bytes)) = some (some (.agg #[.string ⟨#[]⟩, .string ⟨#[]⟩]), 2, 32) := by kernel_rfl

/-- 'append' where there is no room: in new memory -/
theorem run_append_full (w : World) (g off i : Nat) (ps qs : List Pr) (o : Addr) (q c : Nat) (ty : TypeId) (h : RdP w (some ⟨g, off, none⟩) i ps) (ho : RdP w (some o) q qs) (hq : 0 < q) (hi : i + q ≤ 1000000000000) :
    ∃ v' w', (Builtin.append_ #[27, 27] ty #[.slice (some ⟨g, off, none⟩) i i, .slice (some o) q c]).run Try.prog w = .ok v' w' ∧ w'.ownsRow w.heap.size 40 2 v' (i + q) ((ps ++ qs).flatMap pc) ∧ Below w.heap.size w w' := by
  obtain ⟨i0, hi0, hii⟩ := Option.map_eq_some_iff.1 info40
  simp only [Prod.mk.injEq] at hii
  obtain ⟨b', o', e, _⟩ := ho.2 hq
  cases e
  have hl1 : (ps.flatMap pc).length = i * i0.size := by rw [flat_len, h.1, hii.2.1]
  have hl2 : (qs.flatMap pc).length = q * i0.size := by rw [flat_len, ho.1, hii.2.1]
  have hr := run_append_grow (P := Try.prog) w 27 ty 40 i0 _ Try.underlying27 hi0 hii.1 ⟨g, off, none⟩ i i (ps.flatMap pc) hl1 (by intro j u hu; rw [Addr.add_lit]; exact h.cells j u hu)
    ⟨b', o', none⟩ q c (qs.flatMap pc) hl2 (by intro j u hu; rw [Addr.add_lit]; exact ho.cells j u hu) (by omega) (by omega) (growslice_fits_wide (by omega) (by rw [hii.2.2]; omega))
  refine ⟨_, _, hr, ?_, (Below.refl w.heap.size w).drew.alloc (Nat.le_refl _) _⟩
  have hge := grownCap_ge w (i + q) i 40
  have hcm : grownCap w (i + q) i 40 ≤ maxLen := grownCap_le_maxLen w (i + q) i 40 (by unfold maxLen; omega)
  have hlen : ((ps ++ qs).flatMap pc).length = (i + q) * 2 := by rw [flat_len, List.length_append, h.1, ho.1]
  refine ⟨hlen, .inr ⟨w.heap.size, _, _, rfl, Nat.le_refl _, heap_alloc_new w.drew _, hge, hcm, ?_, ?_⟩⟩
  · have hz2 : (Value.agg #[.string ⟨#[]⟩, .string ⟨#[]⟩]).cells.size = 2 := rfl
    simp only [Array.size_append, List.size_toArray, size_zeroCells, hl1, hl2, hii.2.1, hz2, ← Nat.add_mul]
    congr 1
    omega
  · simp only [Array.toList_append, List.append_assoc, List.flatMap_append]
    rw [← List.append_assoc, ← hlen, List.flatMap_append]
    exact List.take_left
theorem step_append_full {ops : Array Oper} {o : Oper} {a : Act} {K : Act → World → Prop} {Q : Exit → Act → World → Prop} {E : Prop} (hw : Region.wanted o (yielded ops a.tmps) = true) (dd : Tmp) (hdd : o.dst = some dd) (s x : Operand)
    (ho : o.op = .call { callee := .builtin .append, args := #[s, x], argTypes := #[27, 27] }) (w : World)
    (g off i : Nat) (ps qs : List Pr) (d : Addr) (q c : Nat) (hs : a.eval s = .slice (some ⟨g, off, none⟩) i i) (hx : a.eval x = .slice (some d) q c) (h : RdP w (some ⟨g, off, none⟩) i ps) (hd : RdP w (some d) q qs) (hq : 0 < q) (hi : i + q ≤ 1000000000000)
    (hk : ∀ v' w', Hid (w'.ownsRow w.heap.size 40 2 v' (i + q) ((ps ++ qs).flatMap pc)) → Hid (Below w.heap.size w w') → K (a.put (some dd) v') w') : if Region.wanted o (yielded ops a.tmps) = true then Oper.wp Try.prog o a w K Q else E := by
  rw [if_pos hw]
  obtain ⟨v', w', hr, h2, h3⟩ := run_append_full w g off i ps qs d q c o.type h hd hq hi
  unfold Oper.wp execOp
  simp only [ho, resolve, invoke, builtin, Sem.run_bind, Sem.run_pure, Result.andThen_ok, List.map_toArray, List.map_cons, List.map_nil, hs, hx, hr]
  rw [← hdd] at hk
  exact hk v' w' h2 h3
theorem step_append_own {ops : Array Oper} {o : Oper} {a : Act} {K : Act → World → Prop} {Q : Exit → Act → World → Prop} {E : Prop} (hw : Region.wanted o (yielded ops a.tmps) = true) (dd : Tmp) (hdd : o.dst = some dd) (s x : Operand)
    (ho : o.op = .call { callee := .builtin .append, args := #[s, x], argTypes := #[27, 27] }) (w : World) (B : Nat) (hB : B ≤ w.heap.size)
    (v : Value) (n : Nat) (ps qs : List Pr) (g off q c : Nat) (hs : a.eval s = v) (hx : a.eval x = .slice (some ⟨g, off, none⟩) q c) (h : w.ownsRow B 40 2 v n (ps.flatMap pc)) (hd : RdP w (some ⟨g, off, none⟩) q qs) (hi : n + q ≤ 1000000000000)
    (hk : ∀ v' w', Hid (w'.ownsRow B 40 2 v' (n + q) ((ps ++ qs).flatMap pc)) → Hid (w.grownBy w' v.ownBlock) → K (a.put (some dd) v') w') : if Region.wanted o (yielded ops a.tmps) = true then Oper.wp Try.prog o a w K Q else E := by
  rw [if_pos hw]
  obtain ⟨i0, hi0, hii⟩ := Option.map_eq_some_iff.1 info40
  simp only [Prod.mk.injEq] at hii
  obtain ⟨v', w', hr, h2, h3, _⟩ := run_append_own_wide (P := Try.prog) w B 27 o.type 40 i0 _ 2 32 Try.underlying27 hi0 hii.1 hii.2.1 hii.2.2 rfl (by omega) v n (ps.flatMap pc) h ⟨g, off, none⟩ q c (qs.flatMap pc) (by rw [flat_len, hd.1]) (by intro j u hu; rw [Addr.add_lit]; exact hd.cells j u hu) (flat_one qs) (by unfold maxLen; omega) (by omega) hB
  unfold Oper.wp execOp
  simp only [ho, resolve, invoke, builtin, Sem.run_bind, Sem.run_pure, Result.andThen_ok, List.map_toArray, List.map_cons, List.map_nil, hs, hx, hr]
  rw [← hdd] at hk
  exact hk v' w' (by rw [List.flatMap_append]; exact h2) h3

theorem part_zero (w : World) (g off n cap j : Nat) (h2 : j ≤ cap) : Calls Try.prog 48 #[.slice (some ⟨g, off, none⟩) n cap, .int .i64 0, .int .i64 (j : Int)] w fun e w' => e = .returned (.slice (some ⟨g, off, none⟩) j j) ∧ w = w' := by
  have q3 : (j : Int) ≤ (cap : Int) := by omega
  go_enter Try.func48, Try.ntmps48
  go_wp2
  go_ret
  exact ⟨rfl, rfl⟩

theorem spl_below {w w3 w4 : World} {v3 : Value} {n : Nat} {xs : List Value} (h : Below w.drew.heap.size w.drew w3) (ho : w3.ownsRow w.drew.heap.size 40 2 v3 n xs) (hg : w3.grownBy w4 v3.ownBlock) : Below w.heap.size w w4 := by
  refine ⟨hg.os.trans h.os, hg.tape.trans h.tape, hg.output.trans h.output, Nat.le_trans h.size hg.size, fun b hb => ?_⟩
  refine (hg.block b (Nat.lt_of_lt_of_le hb h.size) fun e => ?_).trans (h.block b hb)
  have := (ho.lt b e.symm).1
  have hb' : b < w.drew.heap.size := hb
  omega

set_option maxRecDepth 100000 in
theorem spliced_is (w : World) (g off n cap i j : Nat) (ps qs : List Pr) (o : Addr) (q c : Nat) (h : RdP w (some ⟨g, off, none⟩) n ps) (hnc : n ≤ cap) (hij : i ≤ j) (hjn : j ≤ n) (ho : RdP w (some o) q qs) (hq : 0 < q) (hb : n + q ≤ 100000000000) :
    Calls Try.prog 40 #[.slice (some ⟨g, off, none⟩) n cap, .int .i64 (i : Int), .int .i64 (j : Int), .slice (some o) q c] w fun e w' => ∃ v', e = .returned v' ∧ Hid (w'.ownsRow w.heap.size 40 2 v' (i + q + (n - j)) ((ps.take i ++ qs ++ ps.drop j).flatMap pc)) ∧ Hid (Below w.heap.size w w') := by
  have HR : Hid (RdP w.drew (some ⟨g, off, none⟩) i (ps.take i)) := (h.below (Below.refl _ w).drew (Nat.le_refl _)).take (by omega)
  have HO : Hid (RdP w.drew (some o) q qs) := ho.below (Below.refl _ w).drew (Nat.le_refl _)
  have HQ : Hid (0 < q) := hq
  have HNN : Hid (n + q ≤ 100000000000 ∧ i ≤ j ∧ j ≤ n ∧ n ≤ cap) := ⟨hb, hij, hjn, hnc⟩
  have q1 : (0 : Int) ≤ (j : Int) := by omega
  have q2 : (j : Int) ≤ (n : Int) := by omega
  have q3 : (n : Int) ≤ (cap : Int) := by omega
  by_cases hcj : cap = j
  · have hjn' : j = n := by omega
    subst hcj
    subst hjn'
    have HP : Hid (ps.drop cap = []) := List.drop_eq_nil_of_le (by rw [h.1]; exact Nat.le_refl _)
    have HD : Hid (∀ W, Below w.heap.size w W → RdP W (some ⟨g, off, none⟩) 0 (ps.drop cap)) := fun W hW => by rw [HP.out]; exact ⟨rfl, fun h => absurd h (by omega)⟩
    have q5 : i ≤ cap := by omega
    clear h hnc hij hjn ho hq hb
    go_enter Try.func40, Try.ntmps40
    go_wp2
    go_region_held_law (fun _ => True) (trivial) (first
      | (go_at_call 48; refine (part_zero w.drew g off cap cap i q5).mono ?_; rintro e w2 ⟨rfl, rfl⟩)
      | (refine step_append_full (by rfl) 13 rfl _ _ rfl w.drew g off i (ps.take i) qs o q c rfl rfl HR.out HO.out HQ.out (by have := HNN.out; omega) ?_; intro v3 w3 HO3 HB3)
      | (refine step_append_own (by rfl) 17 rfl _ _ rfl w3 w.heap.size HB3.out.size v3 (i + q) (ps.take i ++ qs) (ps.drop cap) g off 0 0 rfl rfl HO3.out (HD.out w3 ((Below.refl _ w).drew.trans HB3.out)) (by have := HNN.out; omega) ?_; intro v4 w4 HO4 HG4))
    go_wp2
    go_ret
    exact ⟨v4, rfl, by rw [Nat.sub_self]; exact HO4, spl_below HB3.out HO3.out HG4.out⟩
  · have HD : Hid (∀ W, Below w.heap.size w W → RdP W (some ⟨g, off + j * 2, none⟩) (n - j) (ps.drop j)) := fun W hW => (h.below hW (Nat.le_refl _)).drop hjn
    have HC : Hid (¬ cap = j) := hcj
    have q4 : ¬ cap - j = 0 := by omega
    have q5 : i ≤ cap := by omega
    clear h hnc hij hjn ho hq hb hcj
    go_enter Try.func40, Try.ntmps40
    go_wp2
    go_region_held_law (fun _ => True) (trivial) (first
      | (go_at_call 48; refine (part_zero w.drew g off n cap i q5).mono ?_; rintro e w2 ⟨rfl, rfl⟩)
      | (refine step_append_full (by rfl) 13 rfl _ _ rfl w.drew g off i (ps.take i) qs o q c rfl rfl HR.out HO.out HQ.out (by have := HNN.out; omega) ?_; intro v3 w3 HO3 HB3)
      | (refine step_append_own (by rfl) 17 rfl _ _ rfl w3 w.heap.size HB3.out.size v3 (i + q) (ps.take i ++ qs) (ps.drop j) g (off + j * 2) (n - j) (cap - j) rfl rfl HO3.out (HD.out w3 ((Below.refl _ w).drew.trans HB3.out)) (by have := HNN.out; omega) ?_; intro v4 w4 HO4 HG4))
    go_wp2
    go_ret
    exact ⟨v4, rfl, by first | exact HO4 | (have e := HO4.out; simp only [List.flatMap_append, List.append_assoc] at e; exact e), spl_below HB3.out HO3.out HG4.out⟩
end Go.Proofs.Ytnagknlfboadkaa.Oct

/- Layer 7 (tree): a pair put into a leaf that has room, and into nothing. -/
namespace Go.Proofs.Ytnagknlfboadkaa.Oct
open Go.RowKit

/-- one node in the place of one -/
def one (nd : Nat) : Value := .agg #[.pointer (some ⟨nd, 0, none⟩), .string ⟨#[]⟩, .string ⟨#[]⟩, .pointer none]
theorem Nd.new (w : World) (g n cap : Nat) (ps : List Pr) (h : RdP w (some ⟨g, 0, none⟩) n ps) : Nd (w.alloc (.cells #[.slice (some ⟨g, 0, none⟩) n cap, .slice none 0 0] 67)) w.heap.size (some ⟨g, 0, none⟩) n cap ps (.slice none 0 0) :=
  ⟨Blk.new _ _ _, h.below ((Below.refl _ w).alloc (Nat.le_refl _) _) (Nat.le_refl _)⟩

theorem results_half {fn : Func} {p : Tmp} (hf : fn.results = #[.cell p 59]) {tm : Array Value} {W : World} {b nd : Nat} (h : tm.getD p undef = .pointer (some ⟨b, 0, none⟩)) (hb : Blk W b 59 [.pointer (some ⟨nd, 0, none⟩), .string ⟨#[]⟩, .string ⟨#[]⟩, .pointer none]) : (results fn tm).run Try.prog W = .ok (one nd) W := by
  exact results_cell_row (P := Try.prog) hf tm W b 59 _ (0, 0) _ h hb Try.underlying59 rfl (by kernel_rfl)
theorem cut_is (w : World) (g n cap : Nat) (ps : List Pr) (h : RdP w (some ⟨g, 0, none⟩) n ps) (hn : n ≤ 7) :
    Calls Try.prog 44 #[.slice (some ⟨g, 0, none⟩) n cap, .slice none 0 0] w fun e w' => ∃ nd, e = .returned (one nd) ∧ Hid (Nd w' nd (some ⟨g, 0, none⟩) n cap ps (.slice none 0 0)) ∧ Hid (Below w.heap.size w w' ∧ w.heap.size ≤ nd) := by
  have HR : Hid (RdP w (some ⟨g, 0, none⟩) n ps) := h
  have q1 : (n : Int) ≤ 7 := by omega
  clear h hn
  go_enter Try.func44, Try.ntmps44
  go_wp2
  have hb := Blk.alloc (Blk.new w #[Value.pointer (some { block := w.heap.size + 1, off := 0 }), Value.string { data := #[] }, Value.string { data := #[] }, Value.pointer none] 59) (Obj.cells #[Value.slice (some { block := g, off := 0 }) n cap, Value.slice none 0 0] 67)
  have hB : Below w.heap.size w (w.alloc (Obj.cells #[Value.pointer (some { block := w.heap.size + 1, off := 0 }), Value.string { data := #[] }, Value.string { data := #[] }, Value.pointer none] 59)) := (Below.refl _ w).alloc (Nat.le_refl _) _
  refine bodyPost_ret (results_half rfl rfl hb) rfl ?_
  exact ⟨_, rfl, by show Nd _ _ _ _ _ _ _; simpa using Nd.new _ g n cap ps (HR.out.below hB (Nat.le_refl _)), hB.alloc (by simp) _, by simp⟩
theorem put_nil (w : World) (x : Pr) :
    Calls Try.prog 33 #[.pointer none, .agg #[.string x.1, .string x.2]] w fun e w' => ∃ nd g, e = .returned (one nd) ∧ Hid (Nd w' nd (some ⟨g, 0, none⟩) 1 1 [x] (.slice none 0 0)) ∧ Hid (Below w.heap.size w w' ∧ w.heap.size ≤ nd) := by
  obtain ⟨k, v⟩ := x
  go_enter Try.func33, Try.ntmps33
  go_wp2
  have hb := (((Blk.new (w.alloc (Obj.cells #[Value.string k, Value.string v] 40)) #[Value.pointer (some { block := w.heap.size + 1 + 1 + 1, off := 0 }), Value.string { data := #[] }, Value.string { data := #[] }, Value.pointer none] 59).alloc (Obj.cells #[Value.string k, Value.string v] 40))).alloc (Obj.cells #[Value.slice (some { block := w.heap.size + 1 + 1, off := 0 }) 1 1, Value.slice none 0 0] 67)
  have hB : Below w.heap.size w (((w.alloc (Obj.cells #[Value.string k, Value.string v] 40)).alloc (Obj.cells #[Value.pointer (some { block := w.heap.size + 1 + 1 + 1, off := 0 }), Value.string { data := #[] }, Value.string { data := #[] }, Value.pointer none] 59)).alloc (Obj.cells #[Value.string k, Value.string v] 40)) := (((Below.refl _ w).alloc (Nat.le_refl _) _).alloc (by simp) _).alloc (by simp; omega) _
  have hb2 := Blk.new ((w.alloc (Obj.cells #[Value.string k, Value.string v] 40)).alloc (Obj.cells #[Value.pointer (some { block := w.heap.size + 1 + 1 + 1, off := 0 }), Value.string { data := #[] }, Value.string { data := #[] }, Value.pointer none] 59)) #[Value.string k, Value.string v] 40
  rw [World.size_alloc, World.size_alloc] at hb2
  rw [World.size_alloc] at hb
  refine bodyPost_ret (results_half rfl rfl hb) rfl ?_
  refine ⟨w.heap.size + 1 + 1 + 1, w.heap.size + 1 + 1, rfl, ?_, hB.alloc (by simp; omega) _, by omega⟩
  have := Nd.new _ (w.heap.size + 1 + 1) 1 1 [(k, v)] (rd_of_cells (ps := [(k, v)]) (off := 0) (fun _ => hb2.row) (fun j u hu => by rw [Nat.zero_add]; exact hb2.cell hu))
  rw [World.size_alloc, World.size_alloc, World.size_alloc] at this
  exact this
theorem whole_is (w : World) (nd : Nat) : Calls Try.prog 34 #[one nd] w fun e w' => e = .returned (.pointer (some ⟨nd, 0, none⟩)) ∧ Hid (Below w.heap.size w w') := by
  unfold one
  go_enter Try.func34, Try.ntmps34
  go_wp2
  go_ret
  exact ⟨rfl, (Below.refl _ w).alloc (Nat.le_refl _) _⟩

theorem spliced_J (w : World) (g off n cap i j : Nat) (I J : Int) (hI : I = (i : Int)) (hJ : J = (j : Int)) (ps qs : List Pr) (o : Addr) (q c : Nat) (h : RdP w (some ⟨g, off, none⟩) n ps) (hnc : n ≤ cap) (hij : i ≤ j) (hjn : j ≤ n) (ho : RdP w (some o) q qs) (hq : 0 < q) (hb : n + q ≤ 100000000000) :
    Calls Try.prog 40 #[.slice (some ⟨g, off, none⟩) n cap, .int .i64 I, .int .i64 J, .slice (some o) q c] w fun e w' => ∃ (g' N cap' : Nat) (R : List Pr), e = .returned (.slice (some ⟨g', 0, none⟩) N cap') ∧ Hid (R = ps.take i ++ qs ++ ps.drop j ∧ N = R.length ∧ N ≤ cap' ∧ w.heap.size ≤ g') ∧ Hid (RdP w' (some ⟨g', 0, none⟩) N R) ∧ Hid (Below w.heap.size w w') := by
  subst hI; subst hJ
  refine (spliced_is w g off n cap i j ps qs o q c h hnc hij hjn ho hq hb).mono ?_
  rintro e w' ⟨v', rfl, HO, HB⟩
  have hl : (ps.take i ++ qs ++ ps.drop j).length = i + q + (n - j) := by rw [List.length_append, List.length_append, List.length_take, List.length_drop, h.1, ho.1]; omega
  have HO' := HO.out
  rw [← hl] at HO'
  obtain ⟨g', cap', rfl, h1, h4, h3⟩ := own_rd HO' (by omega)
  exact ⟨g', _, cap', _, rfl, ⟨rfl, rfl, h3, h4⟩, h1, HB⟩
theorem RdP.grown {w w' : World} {g off n b : Nat} {ps : List Pr} (h : RdP w (some ⟨g, off, none⟩) n ps) (hg : w.grownBy w' (some b)) (hne : g ≠ b) : RdP w' (some ⟨g, off, none⟩) n ps := by
  refine ⟨h.1, fun hp => ?_⟩
  obtain ⟨g', off', e, h1, h2⟩ := h.2 hp
  cases e
  refine ⟨g, off, rfl, h1.same (hg.block g h1.lt (by simpa using hne)), fun k x hk => ?_⟩
  have := h2 k x hk
  exact ⟨hg.cell this.1 (by simpa using hne), hg.cell this.2 (by simpa using hne)⟩
/-- one node, written into a result's block -/
def put4 (W : World) (b nd : Nat) : World := (((W.setCell ⟨b, 0, none⟩ (.pointer (some ⟨nd, 0, none⟩))).setCell ⟨b, 1, none⟩ (.string ⟨#[]⟩)).setCell ⟨b, 2, none⟩ (.string ⟨#[]⟩)).setCell ⟨b, 3, none⟩ (.pointer none)
theorem put4_blk {W : World} {b nd : Nat} (h : Blk W b 59 [Value.pointer none, Value.string { data := #[] }, Value.string { data := #[] }, Value.pointer none]) : Blk (put4 W b nd) b 59 [.pointer (some ⟨nd, 0, none⟩), .string ⟨#[]⟩, .string ⟨#[]⟩, .pointer none] :=
  (((h.set 0 (.pointer (some ⟨nd, 0, none⟩))).set 1 (.string ⟨#[]⟩)).set 2 (.string ⟨#[]⟩)).set 3 (.pointer none)
theorem put4_grown (W : World) (b nd : Nat) : W.grownBy (put4 W b nd) (some b) :=
  grown_tr (grown_tr (grown_tr (grown_setCell _ _ _ _) (grown_setCell _ _ _ _)) (grown_setCell _ _ _ _)) (grown_setCell _ _ _ _)
theorem put4_size (W : World) (b nd : Nat) : (put4 W b nd).heap.size = W.heap.size := by simp [put4]
theorem put4_below {B : Nat} {W W' : World} {b nd : Nat} (h : Below B W W') (hb : B ≤ b) : Below B W (put4 W' b nd) :=
  (((h.setCell (p := ⟨b, 0, none⟩) hb _).setCell (p := ⟨b, 1, none⟩) hb _).setCell (p := ⟨b, 2, none⟩) hb _).setCell (p := ⟨b, 3, none⟩) hb _
theorem cut_le {ps R : List Pr} {x : Pr} {k N : Nat} (h : R = ps.take k ++ [x] ++ ps.drop k) (hN : N = R.length) (hk : k ≤ ps.length) (hn : ps.length ≤ 6) : N ≤ 7 := by
  rw [hN, h]; simp; omega
/-- pairs with one more, or another one in a pair's place -/
def putP (ps : List Pr) (x : Pr) (k : Nat) : List Pr := ps.take k ++ [x] ++ ps.drop (if isP ps x.1 k = true then k + 1 else k)
set_option maxRecDepth 100000 in
set_option maxHeartbeats 1000000 in
theorem put_leaf (w : World) (nd g off n cap : Nat) (ps : List Pr) (x : Pr) (h : Nd w nd (some ⟨g, off, none⟩) n cap ps (.slice none 0 0)) (hm : Mono ps x.1) (hn : n ≤ 6) (hnc : n ≤ cap) :
    Calls Try.prog 33 #[.pointer (some ⟨nd, 0, none⟩), .agg #[.string x.1, .string x.2]] w fun e w' => ∃ nd' g' cap' k, e = .returned (one nd') ∧ Hid (Nd w' nd' (some ⟨g', 0, none⟩) (putP ps x k).length cap' (putP ps x k) (.slice none 0 0)) ∧ Hid (AtP ps x.1 k) ∧ Hid (Below w.heap.size w w' ∧ w.heap.size ≤ nd' ∧ (putP ps x k).length ≤ cap') := by
  have HN : Hid (n ≤ 6 ∧ n ≤ cap) := ⟨hn, hnc⟩
  obtain ⟨k0, v0⟩ := x
  have HM : Hid (Mono ps k0) := hm
  have HD : Hid (Nd w nd (some ⟨g, off, none⟩) n cap ps (.slice none 0 0)) := h
  have HL : Hid (nd < w.heap.size) := h.blk.lt
  have HB0 : Hid (Below w.heap.size w ((w.alloc (Obj.cells #[Value.string k0, Value.string v0] 40)).alloc (Obj.cells #[Value.pointer none, Value.string { data := #[] }, Value.string { data := #[] }, Value.pointer none] 59))) := ((Below.refl _ w).alloc (Nat.le_refl _) _).alloc (by simp) _
  clear hm hn hnc h
  go_enter Try.func33, Try.ntmps33
  go_wp2_with fail
  refine (place_is _ nd _ n cap ps _ k0 (HD.out.below HB0.out (Nat.le_refl _)) HM.out (by have := HN.out; omega)).mono ?_
  rintro e w1 ⟨k, rfl, HA, HB1⟩
  have hS : w.heap.size + 2 ≤ w1.heap.size := by have := HB1.out.size; simp at this; omega
  have HD1 : Hid (Nd w1 nd (some ⟨g, off, none⟩) n cap ps (.slice none 0 0)) := (HD.out.below HB0.out (Nat.le_refl _)).below HB1.out (Nat.le_refl _)
  have HW : Hid (Below w.heap.size w w1) := HB0.out.trans (HB1.out.mono (by simp; omega))
  have HX : Hid (Blk w1 w.heap.size 40 [.string k0, .string v0]) := ((Blk.new w #[Value.string k0, Value.string v0] 40).alloc _).below HB1.out (by simp; omega)
  have HY : Hid (Blk w1 (w.heap.size + 1) 59 [Value.pointer none, Value.string { data := #[] }, Value.string { data := #[] }, Value.pointer none]) := by
    have e := Blk.new (w.alloc (Obj.cells #[Value.string k0, Value.string v0] 40)) #[Value.pointer none, Value.string { data := #[] }, Value.string { data := #[] }, Value.pointer none] 59
    rw [World.size_alloc] at e
    exact e.below HB1.out (by simp)
  have c0 := HD1.out.blk.cell (i := 0) rfl
  have c1 := HD1.out.blk.cell (i := 1) rfl
  have x0 := HX.out.cell (i := 0) rfl
  have x1 := HX.out.cell (i := 1) rfl
  clear HB1 HB0
  have hkn : k ≤ n := by rw [← HD.out.rd.1]; exact HA.out.1
  have HR1 : Hid (RdP (w1.alloc (.cells #[.string k0, .string v0] 40)).drew (some ⟨w1.heap.size, 0, none⟩) 1 [(k0, v0)]) := by
    have hb2 := (Blk.new w1 #[.string k0, .string v0] 40).drew
    exact rd_of_cells (ps := [(k0, v0)]) (off := 0) (fun _ => hb2.row) (fun j u hu => by rw [Nat.zero_add]; exact hb2.cell hu)
  have HB2 : Hid (Below w1.heap.size w1 (w1.alloc (.cells #[.string k0, .string v0] 40)).drew) := ((Below.refl _ w1).alloc (Nat.le_refl _) _).drew
  have HKEEP : Hid (∀ W, Below (w.heap.size + 1) w1 W → (fun w' => w'.cell? ⟨nd, 0, none⟩ = some (.slice (some ⟨g, off, none⟩) n cap) ∧ w'.cell? ⟨nd, 1, none⟩ = some (.slice none 0 0) ∧ w'.cell? ⟨w.heap.size, 0, none⟩ = some (.string k0) ∧ w'.cell? ⟨w.heap.size, 1, none⟩ = some (.string v0)) W) := fun W hW => ⟨(hW.cell (p := ⟨nd, 0, none⟩) (by have := HL.out; show nd < w.heap.size + 1; omega)).trans c0, (hW.cell (p := ⟨nd, 1, none⟩) (by have := HL.out; show nd < w.heap.size + 1; omega)).trans c1, (hW.cell (p := ⟨w.heap.size, 0, none⟩) (by show w.heap.size < w.heap.size + 1; omega)).trans x0, (hW.cell (p := ⟨w.heap.size, 1, none⟩) (by show w.heap.size < w.heap.size + 1; omega)).trans x1⟩
  have HL1 : Hid (w.heap.size + 1 ≤ w1.heap.size) := by show _ ≤ _; omega
  cases hi : isP ps k0 k with
  | true =>
    have hk1 : k < n := by
      rw [← HD.out.rd.1]
      cases hx : ps[k]? with
      | some x => exact (List.getElem?_eq_some_iff.1 hx).1
      | none => simp only [isP, hx] at hi; cases hi
    have HP : Hid (putP ps (k0, v0) k = ps.take k ++ [(k0, v0)] ++ ps.drop (k + 1)) := by show _ = _; simp only [putP, hi, if_true]
    have q1 : (k : Int) + 1 ≤ 7 := by have := HN.out; omega
    have HJ : Hid (IntKind.i64.wrap ((k : Int) + 1) = ((k + 1 : Nat) : Int)) := by show _ = _; rw [IntKind.wrap_i64]; omega
    clear hi
    go_wp2_with fail
    go_region_held_law (fun w' => w'.cell? ⟨nd, 0, none⟩ = some (.slice (some ⟨g, off, none⟩) n cap) ∧ w'.cell? ⟨nd, 1, none⟩ = some (.slice none 0 0) ∧ w'.cell? ⟨w.heap.size, 0, none⟩ = some (.string k0) ∧ w'.cell? ⟨w.heap.size, 1, none⟩ = some (.string v0))
      (first | with_reducible exact HKEEP.out _ (Below.refl _ w1).drew | with_reducible exact HKEEP.out _ (HB2.out.mono HL1.out) | with_reducible exact HKEEP.out _ HB4.out | with_reducible exact HKEEP.out _ (HB4.out.alloc (Nat.le_of_lt hS2) _) | exact HKEEP.out _ (Below.alloc (Below.setCell (Below.setCell (Below.setCell (Below.setCell HB4.out (Nat.le_refl _) _) (Nat.le_refl _) _) (Nat.le_refl _) _) (Nat.le_refl _) _) (by simp; omega) _))
      (first
      | (go_at_call 40; refine (spliced_J (w1.alloc (.cells #[.string k0, .string v0] 40)).drew g off n cap k (k + 1) _ _ rfl HJ.out ps [(k0, v0)] ⟨w1.heap.size, 0, none⟩ 1 1 ((HD1.out.below HB2.out (Nat.le_refl _)).rd) HN.out.2 (by omega) (by omega) HR1.out (by omega) (by have := HN.out; omega)).mono ?_; rintro e w2 ⟨g2, N2, cap2, R2, rfl, HE2, HR2, hB2⟩; have HB3 : Hid (Below w1.heap.size w1 w2) := HB2.out.trans (hB2.out.mono HB2.out.size); clear hB2;
          have HY2 : Hid (Blk w2 (w.heap.size + 1) 59 [Value.pointer none, Value.string { data := #[] }, Value.string { data := #[] }, Value.pointer none]) := HY.out.below HB3.out (by omega);
          have hS2 : w.heap.size + 1 < w2.heap.size := HY2.out.lt; have HB4 : Hid (Below (w.heap.size + 1) w1 w2) := HB3.out.mono HL1.out;
          have y0 := HY2.out.cell (i := 0) rfl; have y1 := HY2.out.cell (i := 1) rfl; have y2 := HY2.out.cell (i := 2) rfl; have y3 := HY2.out.cell (i := 3) rfl;
          have f0 := HY2.out.free 0; have f1 := HY2.out.free 1; have f2 := HY2.out.free 2; have f3 := HY2.out.free 3))
    go_wp2
    have hb := (put4_blk (nd := w2.heap.size) HY2.out).alloc (Obj.cells #[Value.slice (some { block := g2, off := 0 }) N2 cap2, Value.slice none 0 0] 67)
    refine bodyPost_ret (results_half rfl rfl hb) rfl ?_
    have hE := HE2.out
    have hg2 : g2 ≠ w.heap.size + 1 := by have := hE.2.2.2; simp at this; omega
    have hN := Nd.new (put4 w2 (w.heap.size + 1) w2.heap.size) g2 N2 cap2 R2 (HR2.out.grown (put4_grown _ _ _) hg2)
    rw [put4_size] at hN
    have hR : putP ps (k0, v0) k = R2 := by rw [HP.out, hE.1]
    refine ⟨w2.heap.size, g2, cap2, k, rfl, ?_, HA, ?_⟩
    · rw [hR, ← hE.2.1]; exact hN
    · refine ⟨(put4_below (HW.out.trans (HB3.out.mono (by omega))) (by omega)).alloc (by rw [put4_size]; omega) _, by omega, by rw [hR, ← hE.2.1]; exact hE.2.2.1⟩
  | false =>
    have HP : Hid (putP ps (k0, v0) k = ps.take k ++ [(k0, v0)] ++ ps.drop k) := by show _ = _; simp [putP, hi]
    clear hi
    go_wp2_with (go_at_call 39; refine (leaf_is w1 nd c1).mono ?_; rintro e w2 ⟨rfl, rfl⟩)
    go_region_held_law (fun w' => w'.cell? ⟨nd, 0, none⟩ = some (.slice (some ⟨g, off, none⟩) n cap) ∧ w'.cell? ⟨nd, 1, none⟩ = some (.slice none 0 0) ∧ w'.cell? ⟨w.heap.size, 0, none⟩ = some (.string k0) ∧ w'.cell? ⟨w.heap.size, 1, none⟩ = some (.string v0))
      (first | with_reducible exact HKEEP.out _ (Below.refl _ w1).drew | with_reducible exact HKEEP.out _ (HB2.out.mono HL1.out) | with_reducible exact HKEEP.out _ HB4.out | with_reducible exact HKEEP.out _ HB6.out | exact HKEEP.out _ (Below.setCell (Below.setCell (Below.setCell (Below.setCell HB6.out (Nat.le_refl _) _) (Nat.le_refl _) _) (Nat.le_refl _) _) (Nat.le_refl _) _))
      (first
      | (go_at_call 40; refine (spliced_J (w1.alloc (.cells #[.string k0, .string v0] 40)).drew g off n cap k k _ _ rfl rfl ps [(k0, v0)] ⟨w1.heap.size, 0, none⟩ 1 1 ((HD1.out.below HB2.out (Nat.le_refl _)).rd) HN.out.2 (by omega) (by omega) HR1.out (by omega) (by have := HN.out; omega)).mono ?_; rintro e w2 ⟨g2, N2, cap2, R2, rfl, HE2, HR2, hB2⟩; have HB3 : Hid (Below w1.heap.size w1 w2) := HB2.out.trans (hB2.out.mono HB2.out.size); clear hB2;
          have HB4 : Hid (Below (w.heap.size + 1) w1 w2) := HB3.out.mono HL1.out)
      | (go_at_call 44; refine (cut_is w2 g2 N2 cap2 R2 HR2.out (cut_le HE2.out.1 HE2.out.2.1 (by rw [HD.out.rd.1]; exact hkn) (by rw [HD.out.rd.1]; exact HN.out.1))).mono ?_; rintro e w3 ⟨nd3, rfl, HN3, HB5⟩; unfold one; have HB6 : Hid (Below (w.heap.size + 1) w1 w3) := HB4.out.trans (HB5.out.1.mono (Nat.le_trans HL1.out HB3.out.size));
          have HY2 : Hid (Blk w3 (w.heap.size + 1) 59 [Value.pointer none, Value.string { data := #[] }, Value.string { data := #[] }, Value.pointer none]) := HY.out.below (HB3.out.trans (HB5.out.1.mono HB3.out.size)) (by omega);
          have hS2 : w.heap.size + 1 < w3.heap.size := HY2.out.lt;
          have y0 := HY2.out.cell (i := 0) rfl; have y1 := HY2.out.cell (i := 1) rfl; have y2 := HY2.out.cell (i := 2) rfl; have y3 := HY2.out.cell (i := 3) rfl;
          have f0 := HY2.out.free 0; have f1 := HY2.out.free 1; have f2 := HY2.out.free 2; have f3 := HY2.out.free 3))
    go_wp2
    have hb := put4_blk (nd := nd3) HY2.out
    refine bodyPost_ret (results_half rfl rfl hb) rfl ?_
    have hE := HE2.out
    have hg2 : g2 ≠ w.heap.size + 1 := by have := hE.2.2.2; simp at this; omega
    have hnd : nd3 ≠ w.heap.size + 1 := by have := HB5.out.2; have := HB3.out.size; omega
    have hR : putP ps (k0, v0) k = R2 := by rw [HP.out, hE.1]
    refine ⟨nd3, g2, cap2, k, rfl, ?_, HA, ?_⟩
    · rw [hR, ← hE.2.1]
      exact ⟨HN3.out.blk.kept (put4_grown _ _ _) (by simpa using hnd), HN3.out.rd.grown (put4_grown _ _ _) hg2⟩
    · have hB := HB3.out.trans (HB5.out.1.mono HB3.out.size)
      refine ⟨put4_below (HW.out.trans (hB.mono (by omega))) (by omega), by have := HB5.out.2; have := HB3.out.size; omega, by rw [hR, ← hE.2.1]; exact hE.2.2.1⟩
end Go.Proofs.Ytnagknlfboadkaa.Oct
