/-
  Blocks of memory told as lists of cells: what stores, loads and whole arrays do to them. Of no program.
  Layer 7 (tree): a slice of pairs that is read; 'sort.Search' of a test that rises; 'place' of a node.
  Layer 7 (tree): what is asked of a map that has one leaf, or nothing.
  Layer 7 (tree): 'part' and 'spliced' of pairs.
  Layer 7 (tree): a pair put into a leaf that has room, and into nothing.
  Layer 7 (tree): Put of a map that has nothing, or one leaf with room.
  A statement whose order is open, inside a fence, where what is read is told by a condition S on the world that each of its operations keeps: an operation that only reads what S tells may be taken first. Of no program.
-/
import Derived.WalkKit
import Derived.Below
import Derived.Deep.MidRow
import Derived.Deep.Draws
import Derived.Laws.CopyOwn
import Derived.Test.YtnagknlfboadkaaRows
import Derived.Lib.Strings
import Derived.BigQuiet
import Derived.Laws.Cover1
import Derived.Deep.DeepAppendWide
import Derived.Deep.RegionHeldLaw
import Derived.Laws.AppendOwn
import Derived.Laws.AppendOwnNone
import Derived.ProofKit
import Derived.OrdersHeld
import Derived.OrdersIn
/- Blocks of memory told as lists of cells: what stores, loads and whole arrays do to them. Of no program. -/
namespace Go.Proofs.Ytnagknlfboadkaa.Oct
open Go.RowKit

/-- block b holds just the cells L, none of them frozen -/
def Blk (w : World) (b : Nat) (t : TypeId) (L : List Value) : Prop := w.heap[b]? = some (.cells L.toArray t (0, 0))

section
variable {w w' : World} {b : Nat} {t : TypeId} {L : List Value}
theorem Blk.lt (h : Blk w b t L) : b < w.heap.size := lt_of_block h
theorem Blk.cell (h : Blk w b t L) {i : Nat} {v : Value} (hv : L[i]? = some v) : w.cell? ⟨b, i, none⟩ = some v := by
  rw [cell_of_row w b i _ t (0, 0) h, List.getElem?_toArray]; exact hv
theorem Blk.free (h : Blk w b t L) (i : Nat) : w.frozen? ⟨b, i, none⟩ = false := frozen_of_row w b i _ t h
theorem Blk.drewN (h : Blk w b t L) (n : Nat) : Blk (w.drewN n) b t L := h
theorem Blk.drew (h : Blk w b t L) : Blk w.drew b t L := h
theorem Blk.set (h : Blk w b t L) (i : Nat) (v : Value) : Blk (w.setCell ⟨b, i, none⟩ v) b t (L.set i v) := by
  have := heap_setCell_same w b i _ t v h
  unfold Blk
  rw [this]
  simp
theorem Blk.other (h : Blk w b t L) {a : Addr} (hne : b ≠ a.block) (v : Value) : Blk (w.setCell a v) b t L := by
  unfold Blk; rw [heap_setCell_other w a b v hne]; exact h
theorem Blk.below {B : Nat} (h : Blk w b t L) (hb : Below B w w') (hB : b < B) : Blk w' b t L := (hb.block b hB).trans h
theorem Blk.kept {row : Option Nat} (h : Blk w b t L) (hg : w.grownBy w' row) (hne : some b ≠ row) : Blk w' b t L := (hg.block b h.lt hne).trans h
theorem Blk.new (w : World) (C : Array Value) (t : TypeId) : Blk (w.alloc (.cells C t)) w.heap.size t C.toList := by
  unfold Blk; rw [heap_alloc_new]
theorem Blk.alloc (h : Blk w b t L) (o : Obj) : Blk (w.alloc o) b t L := (Below.heap_alloc w o b h.lt).trans h
theorem Blk.range (h : Blk w b t L) (o n : Nat) : w.rangeAt b o ((L.drop o).take n) := by
  intro j v hj
  rw [List.getElem?_take] at hj
  split at hj
  · rw [List.getElem?_drop] at hj
    exact h.cell hj
  · cases hj
theorem Blk.there (h : Blk w b t L) (o n : Nat) (hn : o + n ≤ L.length) : w.there b o n := by
  intro j hj
  exact ⟨by rw [h.cell (List.getElem?_eq_getElem (by omega))]; rfl, h.free _⟩
end

/-- a row of cells of elements of a type -/
def RowT (w : World) (e : TypeId) (g : Nat) : Prop := ∃ cs fr, w.heap[g]? = some (.cells cs e fr)
theorem RowT.lt {w : World} {e : TypeId} {g : Nat} (h : RowT w e g) : g < w.heap.size := by
  obtain ⟨cs, fr, h⟩ := h
  exact (Array.getElem?_eq_some_iff.1 h).1
theorem RowT.same {w w' : World} {e : TypeId} {g : Nat} (h : RowT w e g) (hs : w'.heap[g]? = w.heap[g]?) : RowT w' e g := by
  obtain ⟨cs, fr, h⟩ := h
  exact ⟨cs, fr, hs.trans h⟩
theorem Blk.row {w : World} {b : Nat} {t : TypeId} {L : List Value} (h : Blk w b t L) : RowT w t b := ⟨_, _, h⟩
theorem grown_setCell (w : World) (b i : Nat) (v : Value) : w.grownBy (w.setCell ⟨b, i, none⟩ v) (some b) :=
  ⟨rfl, rfl, rfl, by simp, fun k _ hne => heap_setCell_other w ⟨b, i, none⟩ k v (fun e => hne (by rw [e]))⟩
theorem grown_tr {w w1 w2 : World} {row : Option Nat} (h : w.grownBy w1 row) (k : w1.grownBy w2 row) : w.grownBy w2 row :=
  ⟨k.os.trans h.os, k.tape.trans h.tape, k.output.trans h.output, Nat.le_trans h.size k.size, fun b hb hne => (k.block b (Nat.lt_of_lt_of_le hb h.size) hne).trans (h.block b hb hne)⟩
theorem grown_drewN (w : World) (n : Nat) (row : Option Nat) : w.grownBy (w.drewN n) row := ⟨rfl, rfl, rfl, Nat.le_refl _, fun _ _ _ => rfl⟩

/-- several cells written one behind the other -/
theorem Blk.setCells {b : Nat} {t : TypeId} : ∀ (vs : List Value) (o : Nat) (w : World) (L : List Value), Blk w b t L → o + vs.length ≤ L.length →
    Blk (w.setCells b o vs) b t (L.take o ++ vs ++ L.drop (o + vs.length)) ∧ w.grownBy (w.setCells b o vs) (some b)
  | [], o, w, L, h, _ => by
    refine ⟨?_, World.grownBy.refl _ _⟩
    simpa [World.setCells] using h
  | v :: vs, o, w, L, h, hl => by
    have ih := Blk.setCells vs (o + 1) (w.setCell ⟨b, o, none⟩ v) (L.set o v) (h.set o v) (by simp at *; omega)
    simp only [World.setCells]
    refine ⟨?_, grown_tr (grown_setCell w b o v) ih.2⟩
    have e : (L.set o v).take (o + 1) ++ vs ++ (L.set o v).drop (o + 1 + vs.length) = L.take o ++ (v :: vs) ++ L.drop (o + (v :: vs).length) := by
      have hlt : o < L.length := by simp at hl; omega
      have e0 : L.set o v = L.take o ++ v :: L.drop (o + 1) := by rw [List.set_eq_take_append_cons_drop, if_pos hlt]
      have e1 : (L.set o v).take (o + 1) = L.take o ++ [v] := by
        rw [e0, List.take_append, List.length_take, Nat.min_eq_left (by omega), show o + 1 - o = 1 by omega, List.take_of_length_le (by simp; omega)]; rfl
      rw [e1, List.drop_set_of_lt (by omega), show o + 1 + vs.length = o + (v :: vs).length by simp; omega]
      simp
    rw [← e]
    exact ih.1

/-- a whole array stored into a block -/
theorem wpList_store_blk {P : Program} {ops : Array Oper} {rest : List Oper} {op : Oper} {a : Act} {w : World} {Q : Exit → Act → World → Prop} (hgd : op.guard = none) (ty : TypeId) (x y : Operand) (ho : op.op = .store ty x y)
    (b o : Nat) (t : TypeId) (L : List Value) (cells : List Value) (hx : a.eval x = .pointer (some ⟨b, o, none⟩)) (hy : a.eval y = .agg cells.toArray)
    (hb : Blk w b t L) (hl : o + cells.length ≤ L.length) (hi : (P.info? ty).map (·.size) = some cells.length) (h1 : ∀ v ∈ cells, v.oneCell' = true)
    (h : ∀ w', Hid (Blk w' b t (L.take o ++ cells ++ L.drop (o + cells.length))) → Hid (w.grownBy w' (some b)) → wpList P ops Q rest (a.put op.dst undef) w') : wpList P ops Q (op :: rest) a w := by
  refine wpList_store_mid hgd ty x y ho b o cells.toArray hx hy (by simpa using hb.there o cells.length hl) (by simpa using hi) (all_oneCell_toArray h1) ?_
  have e := Blk.setCells cells o w L hb hl
  exact h _ e.1 e.2

end Go.Proofs.Ytnagknlfboadkaa.Oct

/- Layer 7 (tree): a slice of pairs that is read; 'sort.Search' of a test that rises; 'place' of a node. -/
namespace Go.Proofs.Ytnagknlfboadkaa.Oct
open Go.RowKit

abbrev Pr := ByteArray × ByteArray
/-- a pair's cells -/
def pc (x : Pr) : List Value := [.string x.1, .string x.2]
/-- a slice of pairs that can be read -/
def RdP (w : World) (a : Option Addr) (n : Nat) (ps : List Pr) : Prop :=
  ps.length = n ∧ (0 < n → ∃ g off, a = some ⟨g, off, none⟩ ∧ RowT w 40 g ∧ ∀ k x, ps[k]? = some x → w.cell? ⟨g, off + k * 2, none⟩ = some (.string x.1) ∧ w.cell? ⟨g, off + k * 2 + 1, none⟩ = some (.string x.2))
theorem RdP.below {w w' : World} {B : Nat} {a : Option Addr} {n : Nat} {ps : List Pr} (h : RdP w a n ps) (hb : Below B w w') (hB : w.heap.size ≤ B) : RdP w' a n ps := by
  refine ⟨h.1, fun hp => ?_⟩
  obtain ⟨g, off, e, h1, h2⟩ := h.2 hp
  have hgl := h1.lt
  refine ⟨g, off, e, h1.same (hb.block g (by omega)), fun k x hk => ?_⟩
  have := h2 k x hk
  exact ⟨(hb.cell (p := ⟨g, _, none⟩) (by show g < B; omega)).trans this.1, (hb.cell (p := ⟨g, _, none⟩) (by show g < B; omega)).trans this.2⟩
theorem RdP.kept {w w' : World} {B : Nat} {a : Option Addr} {n : Nat} {ps : List Pr} (h : RdP w a n ps) (hb : Below B w w') (hg : ∀ ad, a = some ad → ad.block < B) : RdP w' a n ps := by
  refine ⟨h.1, fun hp => ?_⟩
  obtain ⟨g, off, e, h1, h2⟩ := h.2 hp
  have hgB : g < B := hg _ e
  refine ⟨g, off, e, h1.same (hb.block g hgB), fun k x hk => ?_⟩
  have := h2 k x hk
  exact ⟨(hb.cell (p := ⟨g, _, none⟩) hgB).trans this.1, (hb.cell (p := ⟨g, _, none⟩) hgB).trans this.2⟩

/-- not less, as texts are compared -/
def geS (a b : ByteArray) : Bool := !(Op.bytesLess a.toList b.toList)

set_option maxRecDepth 100000 in
theorem place1_is (w : World) (b bk g off : Nat) (k : Nat) (n cap : Nat) (kv : Value) (key x : ByteArray) (hk : k < n)
    (h1 : w.cell? ⟨b, 0, none⟩ = some kv) (nd : Nat) (hkv : kv = .pointer (some ⟨nd, 0, none⟩)) (h2 : w.cell? ⟨bk, 0, none⟩ = some (.string key))
    (h3 : w.cell? ⟨nd, 0, none⟩ = some (.slice (some ⟨g, off, none⟩) n cap)) (h4 : w.cell? ⟨g, off + k * 2, none⟩ = some (.string x)) :
    Calls Try.prog 47 #[.int .i64 (k : Int), .pointer (some ⟨b, 0, none⟩), .pointer (some ⟨bk, 0, none⟩)] w fun e w' => e = .returned (.bool (geS x key)) ∧ Below w.heap.size w w' := by
  subst hkv
  have q1 : (k : Int) < (n : Int) := by omega
  go_enter Try.func47, Try.ntmps47
  go_wp2
  go_region
  go_wp2
  go_ret
  exact ⟨rfl, (Below.refl _ w).drew⟩

set_option maxRecDepth 100000 in
theorem search_is (w : World) (n : Nat) (p : Nat → Bool) (hm : ∀ i j, i ≤ j → j < n → p i = true → p j = true) (hn : n ≤ 140737488355328) (b bk : Nat)
    (hf : ∀ i, i < n → ∀ W, Below w.heap.size w W → Calls Try.prog 47 #[.int .i64 (i : Int), .pointer (some ⟨b, 0, none⟩), .pointer (some ⟨bk, 0, none⟩)] W fun e W' => e = .returned (.bool (p i)) ∧ Below W.heap.size W W') :
    Calls Try.prog 46 #[.int .i64 (n : Int), .func (.func 47) #[] #[.pointer (some ⟨b, 0, none⟩), .pointer (some ⟨bk, 0, none⟩)]] w fun e w' => ∃ k : Nat, e = .returned (.int .i64 (k : Int)) ∧ Hid (k ≤ n ∧ (∀ i, i < k → p i = false) ∧ (∀ i, k ≤ i → i < n → p i = true)) ∧ Hid (Below w.heap.size w w') := by
  have HM : Hid (∀ i j, i ≤ j → j < n → p i = true → p j = true) := hm
  have HF : Hid (∀ i, i < n → ∀ W, Below w.heap.size w W → Calls Try.prog 47 #[.int .i64 (i : Int), .pointer (some ⟨b, 0, none⟩), .pointer (some ⟨bk, 0, none⟩)] W fun e W' => e = .returned (.bool (p i)) ∧ Below W.heap.size W W') := hf
  have HN : Hid (n ≤ 140737488355328) := hn
  clear hm hf hn
  go_enter Try.func46, Try.ntmps46
  go_wp2
  go_loopw [5, 6] (fun u v wr => ∃ i j : Nat, u = .int .i64 (i : Int) ∧ v = .int .i64 (j : Int) ∧ Hid (i ≤ j ∧ j ≤ n) ∧ Hid (∀ k, k < i → p k = false) ∧ Hid (∀ k, j ≤ k → k < n → p k = true) ∧ Hid (Below w.heap.size w wr)) (fun u v _ => (intOf v - intOf u).toNat)
  case atStart => exact ⟨0, n, rfl, rfl, ⟨Nat.zero_le _, Nat.le_refl _⟩, fun k hk => by omega, fun k h1 h2 => by omega, Below.refl _ _⟩
  case round =>
    obtain ⟨i, j, rfl, rfl, HIJ, HA, HB, HW⟩ := hrel
    by_cases hlt : i < j
    · have q1 : (i : Int) < (j : Int) := by omega
      obtain ⟨h, hh⟩ : ∃ h, (i + j) / 2 = h := ⟨_, rfl⟩
      have HH : Hid (i ≤ h ∧ h < j) := by show _ ∧ _; omega
      have hj : j ≤ 140737488355328 := Nat.le_trans HIJ.out.2 HN.out
      have q2 : IntKind.i64.wrap ((i : Int) + (j : Int)) = ((i + j : Nat) : Int) := by rw [IntKind.wrap_i64]; omega
      have q3 : IntKind.u64.wrap ((i + j : Nat) : Int) = ((i + j : Nat) : Int) := by rw [IntKind.wrap_u64]; omega
      have q4 : ((i : Int) + (j : Int)) / 2 = (h : Int) := by omega
      have q5 : (h : Int) ≤ 140737488355328 := by have := HH.out; omega
      clear hlt
      go_wp2_with fail
      refine (HF.out h (Nat.lt_of_lt_of_le HH.out.2 HIJ.out.2) wr HW.out).mono ?_
      rintro e w1 ⟨rfl, hB1⟩
      have HB1 : Hid (Below w.heap.size w w1) := HW.out.trans (hB1.mono HW.out.size)
      clear hB1
      cases hp : p h with
      | true =>
        have HP : Hid (p h = true) := hp
        clear hp
        go_wp2
        go_roundw
        case rel => exact ⟨i, h, rfl, rfl, ⟨HH.out.1, by have := HH.out; have := HIJ.out; omega⟩, HA, fun k h1 h2 => HM.out h k h1 h2 HP.out, HB1⟩
        case measure => have := HH.out; simp [intOf]; omega
      | false =>
        have HP : Hid (p h = false) := hp
        clear hp
        go_wp2
        go_roundw
        case rel =>
          refine ⟨h + 1, j, by simp, rfl, ⟨HH.out.2, HIJ.out.2⟩, fun k hk => ?_, HB, HB1⟩
          cases hpk : p k with
          | false => rfl
          | true =>
            have := HM.out k h (by omega) (Nat.lt_of_lt_of_le HH.out.2 HIJ.out.2) hpk
            rw [HP.out] at this; cases this
        case measure => have := HH.out; simp [intOf]; omega
    · have q1 : ¬ (i : Int) < (j : Int) := by omega
      have hij : j = i := by have := HIJ.out; omega
      subst hij
      go_wp2
      go_ret
      exact ⟨j, rfl, ⟨HIJ.out.2, HA.out, HB.out⟩, HW⟩

/-- where a key stands among pairs, or would -/
def AtP (ps : List Pr) (key : ByteArray) (k : Nat) : Prop := k ≤ ps.length ∧ (∀ (i : Nat) (x : Pr), i < k → ps[i]? = some x → geS x.1 key = false) ∧ (∀ (i : Nat) (x : Pr), k ≤ i → ps[i]? = some x → geS x.1 key = true)
/-- whether it stands there -/
def isP (ps : List Pr) (key : ByteArray) (k : Nat) : Bool := match ps[k]? with | some x => x.1.toList == key.toList | none => false
/-- what is not less stays so -/
def Mono (ps : List Pr) (key : ByteArray) : Prop := ∀ (i j : Nat) (x y : Pr), i ≤ j → ps[i]? = some x → ps[j]? = some y → geS x.1 key = true → geS y.1 key = true
/-- a node whose pairs can be read -/
structure Nd (w : World) (b : Nat) (a : Option Addr) (n cap : Nat) (ps : List Pr) (kv : Value) : Prop where
  blk : Blk w b 67 [.slice a n cap, kv]
  rd : RdP w a n ps
theorem Nd.below {w w' : World} {B b : Nat} {a : Option Addr} {n cap : Nat} {ps : List Pr} {kv : Value} (h : Nd w b a n cap ps kv) (hb : Below B w w') (hB : w.heap.size ≤ B) : Nd w' b a n cap ps kv :=
  ⟨h.blk.below hb (Nat.lt_of_lt_of_le h.blk.lt hB), h.rd.below hb hB⟩

theorem below_drewN {B : Nat} {w w1 : World} (h : Below B w w1) (n : Nat) : Below B w (w1.drewN n) := ⟨h.os, h.tape, h.output, h.size, h.block⟩
def tst (ps : List Pr) (key : ByteArray) (i : Nat) : Bool := match ps[i]? with | some x => geS x.1 key | none => true
theorem search_at (W : World) (b bk nd : Nat) (a : Option Addr) (n cap : Nat) (ps : List Pr) (kv : Value) (key : ByteArray) (h : Nd W nd a n cap ps kv) (hm : Mono ps key) (hn : n ≤ 140737488355328)
    (hb : W.cell? ⟨b, 0, none⟩ = some (.pointer (some ⟨nd, 0, none⟩))) (hk : W.cell? ⟨bk, 0, none⟩ = some (.string key)) :
    Calls Try.prog 46 #[.int .i64 (n : Int), .func (.func 47) #[] #[.pointer (some ⟨b, 0, none⟩), .pointer (some ⟨bk, 0, none⟩)]] W fun e w' => ∃ k : Nat, e = .returned (.int .i64 (k : Int)) ∧ Hid (AtP ps key k) ∧ Hid (Below W.heap.size W w') := by
  have hl := h.rd.1
  refine (search_is W n (tst ps key) ?_ hn b bk ?_).mono ?_
  · intro i j hij hj hi
    have h1 : i < ps.length := by omega
    have h2 : j < ps.length := by omega
    simp only [tst, List.getElem?_eq_getElem h1, List.getElem?_eq_getElem h2] at hi ⊢
    exact hm i j _ _ hij (List.getElem?_eq_getElem h1) (List.getElem?_eq_getElem h2) hi
  · intro i hi W1 hB
    obtain ⟨g, off, rfl, hg, hc⟩ := h.rd.2 (by omega)
    have h1 : i < ps.length := by omega
    have hx := hc i _ (List.getElem?_eq_getElem h1)
    have e : tst ps key i = geS ps[i].1 key := by simp only [tst, List.getElem?_eq_getElem h1]
    rw [e]
    have lb := World.block_lt_of_cell? W _ hb
    have lk := World.block_lt_of_cell? W _ hk
    exact place1_is W1 b bk g off i n cap _ key ps[i].1 hi ((hB.cell (p := ⟨b, 0, none⟩) lb).trans hb) nd rfl ((hB.cell (p := ⟨bk, 0, none⟩) lk).trans hk)
      ((h.below hB (Nat.le_refl _)).blk.cell (i := 0) rfl) ((hB.cell (p := ⟨g, _, none⟩) hg.lt).trans hx.1)
  · rintro e w' ⟨k, rfl, hk1, hB⟩
    refine ⟨k, rfl, ⟨by rw [hl]; exact hk1.out.1, fun i x hi hx => ?_, fun i x hi hx => ?_⟩, hB⟩
    · have := hk1.out.2.1 i hi
      simpa only [tst, hx] using this
    · have hlt : i < n := by rw [← hl]; exact (List.getElem?_eq_some_iff.1 hx).1
      have := hk1.out.2.2 i hi hlt
      simpa only [tst, hx] using this

set_option maxRecDepth 100000 in
theorem place_is (w : World) (nd : Nat) (a : Option Addr) (n cap : Nat) (ps : List Pr) (kv : Value) (key : ByteArray) (h : Nd w nd a n cap ps kv) (hm : Mono ps key) (hn : n ≤ 140737488355328) :
    Calls Try.prog 38 #[.pointer (some ⟨nd, 0, none⟩), .string key] w fun e w' => ∃ k : Nat, e = .returned (.tuple #[.int .i64 (k : Int), .bool (isP ps key k)]) ∧ Hid (AtP ps key k) ∧ Hid (Below w.heap.size w w') := by
  have HM : Hid (Mono ps key) := hm
  have HN : Hid (n ≤ 140737488355328) := hn
  have HD : Hid (Nd w nd a n cap ps kv) := h
  have c0 := h.blk.cell (i := 0) rfl
  have hl := h.blk.lt
  have HB2 : Hid (Below w.heap.size w ((w.alloc (Obj.cells #[Value.pointer (some { block := nd, off := 0 })] 46)).alloc (Obj.cells #[Value.string key] 9))) := ((Below.refl _ w).alloc (Nat.le_refl _) _).alloc (by simp) _
  clear hm hn h
  go_enter Try.func38, Try.ntmps38
  go_wp2_with fail
  refine (search_at _ w.heap.size (w.heap.size + 1) nd a n cap ps kv key (HD.out.below HB2.out (Nat.le_refl _)) HM.out HN.out (by go_simp) (by go_simp)).mono ?_
  rintro e w1 ⟨k, rfl, HA, HB1⟩
  have hS : w.heap.size + 2 ≤ w1.heap.size := by have := HB1.out.size; simp at this; omega
  have c1 : w1.cell? ⟨nd, 0, none⟩ = some (.slice a n cap) := (HB1.out.cell (p := ⟨nd, 0, none⟩) (by simp; omega)).trans ((HB2.out.cell (p := ⟨nd, 0, none⟩) hl).trans c0)
  have c2 : w1.cell? ⟨w.heap.size, 0, none⟩ = some (.pointer (some ⟨nd, 0, none⟩)) := (HB1.out.cell (p := ⟨w.heap.size, 0, none⟩) (by simp; omega)).trans (by go_simp)
  have c3 : w1.cell? ⟨w.heap.size + 1, 0, none⟩ = some (.string key) := (HB1.out.cell (p := ⟨w.heap.size + 1, 0, none⟩) (by simp)).trans (by go_simp)
  have HD1 : Hid (Nd w1 nd a n cap ps kv) := (HD.out.below HB2.out (Nat.le_refl _)).below HB1.out (Nat.le_refl _)
  have HW : Hid (Below w.heap.size w w1) := HB2.out.trans (HB1.out.mono (by simp; omega))
  clear HB1 HB2 c0
  by_cases hk : k < n
  · have q1 : (k : Int) < (n : Int) := by omega
    obtain ⟨g, off, rfl, hg, hc⟩ := HD1.out.rd.2 (by omega)
    have hlt : k < ps.length := by rw [HD.out.rd.1]; exact hk
    have hx := (hc k _ (List.getElem?_eq_getElem hlt)).1
    have HI : Hid (isP ps key k = (ps[k].1.toList == key.toList)) := by show _ = _; simp only [isP, List.getElem?_eq_getElem hlt]
    generalize ps[k].1 = x at *
    clear hc hk hlt
    go_wp2
    go_quiet (fail)
    go_wp2
    go_ret2
    exact ⟨k, by rw [HI.out]; rfl, HA, below_drewN HW.out _⟩
  · have q1 : ¬ (k : Int) < (n : Int) := by omega
    have HI : Hid (isP ps key k = false) := by
      show _ = _
      have : ps[k]? = none := by rw [List.getElem?_eq_none_iff, HD.out.rd.1]; omega
      simp only [isP, this]
    go_wp2
    go_quiet (fail)
    go_wp2
    go_ret2
    exact ⟨k, by rw [HI.out]; rfl, HA, below_drewN HW.out _⟩
end Go.Proofs.Ytnagknlfboadkaa.Oct

/- Layer 7 (tree): what is asked of a map that has one leaf, or nothing. -/
namespace Go.Proofs.Ytnagknlfboadkaa.Oct
open Go.RowKit

theorem made_nil (w : World) : Calls Try.prog 22 #[.pointer none] w fun e w' => e = .returned (.bool false) ∧ w = w' := by
  go_enter Try.func22, Try.ntmps22
  go_wp2
  go_ret
  exact ⟨rfl, rfl⟩
theorem made_is (w : World) (m : Nat) (b : Bool) (h : w.cell? ⟨m, 2, none⟩ = some (.bool b)) : Calls Try.prog 22 #[.pointer (some ⟨m, 0, none⟩)] w fun e w' => e = .returned (.bool b) ∧ w = w' := by
  go_enter Try.func22, Try.ntmps22
  go_wp2
  go_ret
  exact ⟨rfl, rfl⟩
theorem leaf_is (w : World) (nd : Nat) (h : w.cell? ⟨nd, 1, none⟩ = some (.slice none 0 0)) : Calls Try.prog 39 #[.pointer (some ⟨nd, 0, none⟩)] w fun e w' => e = .returned (.bool true) ∧ w = w' := by
  go_enter Try.func39, Try.ntmps39
  go_wp2
  go_ret
  exact ⟨rfl, rfl⟩
theorem get_nil (w : World) (key : ByteArray) : Calls Try.prog 30 #[.pointer none, .string key] w fun e w' => e = .returned (.tuple #[.string ⟨#[]⟩, .bool false]) ∧ Below w.heap.size w w' := by
  go_enter Try.func30, Try.ntmps30
  go_wp2
  go_loopw [0] (fun u wr => u = .pointer none ∧ Hid (w = wr)) (fun _ _ => 0)
  case atStart => exact ⟨rfl, rfl⟩
  case round =>
    obtain ⟨rfl, hw⟩ := hrel
    go_wp2
    go_ret2
    exact ⟨rfl, by rw [← hw.out]; exact Below.refl _ _⟩

/-- what a leaf tells of a key -/
def valP (ps : List Pr) (key : ByteArray) (k : Nat) : ByteArray := if isP ps key k = true then (match ps[k]? with | some x => x.2 | none => ⟨#[]⟩) else ⟨#[]⟩
theorem get_leaf (w : World) (nd : Nat) (a : Option Addr) (n cap : Nat) (ps : List Pr) (key : ByteArray) (h : Nd w nd a n cap ps (.slice none 0 0)) (hm : Mono ps key) (hn : n ≤ 140737488355328) :
    Calls Try.prog 30 #[.pointer (some ⟨nd, 0, none⟩), .string key] w fun e w' => ∃ k : Nat, e = .returned (.tuple #[.string (valP ps key k), .bool (isP ps key k)]) ∧ Hid (AtP ps key k) ∧ Hid (Below w.heap.size w w') := by
  have HM : Hid (Mono ps key) := hm
  have HN : Hid (n ≤ 140737488355328) := hn
  have HD : Hid (Nd w nd a n cap ps (.slice none 0 0)) := h
  clear hm hn h
  go_enter Try.func30, Try.ntmps30
  go_wp2
  go_loopw [0] (fun u wr => u = .pointer (some ⟨nd, 0, none⟩) ∧ Hid (w = wr)) (fun _ _ => 0)
  case atStart => exact ⟨rfl, rfl⟩
  case round =>
    obtain ⟨rfl, hw⟩ := hrel
    have HD1 : Hid (Nd wr nd a n cap ps (.slice none 0 0)) := by rw [← hw.out]; exact HD
    go_wp2_with fail
    refine (place_is wr nd a n cap ps _ key HD1.out HM.out HN.out).mono ?_
    rintro e w1 ⟨k, rfl, HA, HB1⟩
    have HD2 : Hid (Nd w1 nd a n cap ps (.slice none 0 0)) := HD1.out.below HB1.out (Nat.le_refl _)
    have HW : Hid (Below w.heap.size w w1) := by rw [hw.out]; exact HB1
    have c0 := HD2.out.blk.cell (i := 0) rfl
    have c1 := HD2.out.blk.cell (i := 1) rfl
    cases hi : isP ps key k with
    | true =>
      obtain ⟨x, hx⟩ : ∃ x, ps[k]? = some x := by
        cases hx : ps[k]? with
        | some x => exact ⟨x, rfl⟩
        | none => simp only [isP, hx] at hi; cases hi
      have hlt : k < n := by rw [← HD.out.rd.1]; exact (List.getElem?_eq_some_iff.1 hx).1
      obtain ⟨g, off, rfl, hg, hc⟩ := HD2.out.rd.2 (by omega)
      have c2 := (hc k x hx).2
      have HV : Hid (valP ps key k = x.2) := by show _ = _; simp only [valP, hi, hx, if_true]
      have HI : Hid (isP ps key k = true) := hi
      have q1 : (k : Int) < (n : Int) := by omega
      generalize x.2 = y at *
      clear hc hi hx hlt
      go_wp2
      go_ret2
      exact ⟨k, by rw [HV.out, HI.out]; rfl, HA, HW⟩
    | false =>
      have HV : Hid (valP ps key k = ⟨#[]⟩) := by show _ = _; simp [valP, hi]
      have HI : Hid (isP ps key k = false) := hi
      clear hi
      go_wp2_with (go_at_call 39; refine (leaf_is w1 nd c1).mono ?_; rintro e w2 ⟨rfl, rfl⟩)
      go_ret2
      exact ⟨k, by rw [HV.out, HI.out]; rfl, HA, HW⟩
theorem depth_leaf (w : World) (nd : Nat) (h : w.cell? ⟨nd, 1, none⟩ = some (.slice none 0 0)) : Calls Try.prog 35 #[.pointer (some ⟨nd, 0, none⟩)] w fun e w' => e = .returned (.int .i64 1) ∧ w = w' := by
  go_enter Try.func35, Try.ntmps35
  go_wp2_with (go_at_call 39; refine (leaf_is w nd h).mono ?_; rintro e w2 ⟨rfl, rfl⟩)
  go_ret
  exact ⟨rfl, rfl⟩

/-- a map -/
def Mp (w : World) (m : Nat) (r : Value) (n : Nat) : Prop := Blk w m 48 [r, .int .i64 (n : Int), .bool true]
theorem len_is (w : World) (m : Nat) (r : Value) (n : Nat) (h : Mp w m r n) : Calls Try.prog 15 #[.pointer (some ⟨m, 0, none⟩)] w fun e w' => e = .returned (.int .i64 (n : Int)) ∧ w = w' := by
  have c2 := h.cell (i := 2) rfl
  have c1 := h.cell (i := 1) rfl
  go_enter Try.func15, Try.ntmps15
  go_wp2_with (go_at_call 22; refine (made_is w m true c2).mono ?_; rintro e w2 ⟨rfl, rfl⟩)
  go_ret
  exact ⟨rfl, rfl⟩
theorem depth_is (w : World) (m nd : Nat) (n : Nat) (h : Mp w m (.pointer (some ⟨nd, 0, none⟩)) n) (hl : w.cell? ⟨nd, 1, none⟩ = some (.slice none 0 0)) : Calls Try.prog 20 #[.pointer (some ⟨m, 0, none⟩)] w fun e w' => e = .returned (.int .i64 1) ∧ w = w' := by
  have c2 := h.cell (i := 2) rfl
  have c0 := h.cell (i := 0) rfl
  go_enter Try.func20, Try.ntmps20
  go_wp2_with (first | (go_at_call 22; refine (made_is w m true c2).mono ?_; rintro e w2 ⟨rfl, rfl⟩) | (go_at_call 35; refine (depth_leaf w nd hl).mono ?_; rintro e w3 ⟨rfl, rfl⟩))
  go_ret
  exact ⟨rfl, rfl⟩
theorem mget_is (w : World) (m nd : Nat) (a : Option Addr) (n cap c : Nat) (ps : List Pr) (key : ByteArray) (hmp : Mp w m (.pointer (some ⟨nd, 0, none⟩)) c) (h : Nd w nd a n cap ps (.slice none 0 0)) (hm : Mono ps key) (hn : n ≤ 140737488355328) :
    Calls Try.prog 21 #[.pointer (some ⟨m, 0, none⟩), .string key] w fun e w' => ∃ k : Nat, e = .returned (.tuple #[.string (valP ps key k), .bool (isP ps key k)]) ∧ Hid (AtP ps key k) ∧ Hid (Below w.heap.size w w') := by
  have c2 := hmp.cell (i := 2) rfl
  have c0 := hmp.cell (i := 0) rfl
  have HC := And.intro h (And.intro hm hn)
  have HC' : Hid (Nd w nd a n cap ps (.slice none 0 0) ∧ Mono ps key ∧ n ≤ 140737488355328) := HC
  clear HC h hm hn hmp
  go_enter Try.func21, Try.ntmps21
  go_wp2_with (first | (go_at_call 22; refine (made_is w m true c2).mono ?_; rintro e w2 ⟨rfl, rfl⟩) | (go_at_call 30; refine (get_leaf w nd a n cap ps key HC'.out.1 HC'.out.2.1 HC'.out.2.2).mono ?_; rintro e w3 ⟨k, rfl, HA, HB⟩))
  go_ret2
  exact ⟨k, rfl, HA, HB⟩
theorem new_is (w : World) : Calls Try.prog 10 #[] w fun e w' => e = .returned (.pointer (some ⟨w.heap.size, 0, none⟩)) ∧ Hid (Mp w' w.heap.size (.pointer none) 0) ∧ Hid (Below w.heap.size w w') := by
  go_enter Try.func10, Try.ntmps10
  go_wp2
  go_ret
  exact ⟨rfl, Blk.new _ _ _, (Below.refl _ w).alloc (Nat.le_refl _) _⟩
end Go.Proofs.Ytnagknlfboadkaa.Oct

/- Layer 7 (tree): 'part' and 'spliced' of pairs. -/
namespace Go.Proofs.Ytnagknlfboadkaa.Oct
open Go.RowKit

theorem flat_get : ∀ (ps : List Pr) (j : Nat), (ps.flatMap pc)[j]? = (ps[j / 2]?).map (fun x => if j % 2 = 0 then Value.string x.1 else Value.string x.2)
  | [], j => by simp
  | x :: r, 0 => by simp [pc]
  | x :: r, 1 => by simp [pc]
  | x :: r, j + 2 => by
    have ih := flat_get r j
    have e : (List.flatMap pc (x :: r))[j + 2]? = (r.flatMap pc)[j]? := by simp [pc]
    rw [e, ih, show (j + 2) / 2 = j / 2 + 1 by omega, List.getElem?_cons_succ, show (j + 2) % 2 = j % 2 by omega]
theorem flat_len (ps : List Pr) : (ps.flatMap pc).length = ps.length * 2 := by
  induction ps with
  | nil => rfl
  | cons x r ih => rw [List.flatMap_cons, List.length_append, ih, List.length_cons]; simp [pc]; omega
theorem flat_one (ps : List Pr) : ∀ u ∈ ps.flatMap pc, u.oneCell' = true := by
  intro u hu
  obtain ⟨x, _, hx⟩ := List.mem_flatMap.1 hu
  simp only [pc, List.mem_cons, List.not_mem_nil, or_false] at hx
  rcases hx with rfl | rfl <;> rfl
theorem RdP.cells {w : World} {g off n : Nat} {ps : List Pr} (h : RdP w (some ⟨g, off, none⟩) n ps) : ∀ j u, (ps.flatMap pc)[j]? = some u → w.cell? ⟨g, off + j, none⟩ = some u := by
  intro j u hu
  rw [flat_get] at hu
  obtain ⟨x, hx, rfl⟩ := Option.map_eq_some_iff.1 hu
  have hlt := (List.getElem?_eq_some_iff.1 hx).1
  obtain ⟨g', off', e, _, hc⟩ := h.2 (by rw [← h.1]; omega)
  cases e
  have := hc _ x hx
  split
  · rw [show off + j = off + j / 2 * 2 by omega]; exact this.1
  · rw [show off + j = off + j / 2 * 2 + 1 by omega]; exact this.2
theorem rd_of_cells {w : World} {g off : Nat} {ps : List Pr} (hg : 0 < ps.length → RowT w 40 g) (h : ∀ j u, (ps.flatMap pc)[j]? = some u → w.cell? ⟨g, off + j, none⟩ = some u) : RdP w (some ⟨g, off, none⟩) ps.length ps := by
  refine ⟨rfl, fun hp => ⟨g, off, rfl, hg hp, fun k x hk => ⟨?_, ?_⟩⟩⟩
  · exact h (k * 2) _ (by rw [flat_get, show k * 2 / 2 = k by omega, hk]; simp)
  · have := h (k * 2 + 1) (.string x.2) (by rw [flat_get, show (k * 2 + 1) / 2 = k by omega, hk]; simp)
    exact this
theorem RdP.take {w : World} {g off n : Nat} {ps : List Pr} (h : RdP w (some ⟨g, off, none⟩) n ps) {i : Nat} (hi : i ≤ n) : RdP w (some ⟨g, off, none⟩) i (ps.take i) := by
  refine ⟨by rw [List.length_take, h.1]; omega, fun hp => ?_⟩
  obtain ⟨g', off', e, h1, hc⟩ := h.2 (by omega)
  cases e
  refine ⟨g, off, rfl, h1, fun k x hk => hc k x ?_⟩
  rw [List.getElem?_take] at hk
  split at hk
  · exact hk
  · cases hk
theorem RdP.drop {w : World} {g off n : Nat} {ps : List Pr} (h : RdP w (some ⟨g, off, none⟩) n ps) {j : Nat} (hj : j ≤ n) : RdP w (some ⟨g, off + j * 2, none⟩) (n - j) (ps.drop j) := by
  refine ⟨by rw [List.length_drop, h.1], fun hp => ?_⟩
  obtain ⟨g', off', e, h1, hc⟩ := h.2 (by omega)
  cases e
  refine ⟨g, _, rfl, h1, fun k x hk => ?_⟩
  rw [List.getElem?_drop] at hk
  have := hc _ x hk
  rw [show off + (j + k) * 2 = off + j * 2 + k * 2 by omega] at this
  exact this
theorem own_rd {w : World} {B : Nat} {v : Value} {ps : List Pr} (h : w.ownsRow B 40 2 v ps.length (ps.flatMap pc)) (hp : 0 < ps.length) : ∃ g cap, v = .slice (some ⟨g, 0, none⟩) ps.length cap ∧ RdP w (some ⟨g, 0, none⟩) ps.length ps ∧ B ≤ g ∧ ps.length ≤ cap := by
  rcases h.2 with ⟨_, e⟩ | ⟨g, cap, cur, rfl, hB, hb, hn, _, _, ht⟩
  · omega
  · refine ⟨g, cap, rfl, rd_of_cells (fun _ => ⟨_, _, hb⟩) fun j u hu => ?_, hB, hn⟩
    rw [Nat.zero_add, cell_of_row w g j _ 40 (0, 0) hb]
    rw [← ht, List.getElem?_take] at hu
    split at hu
    · simpa using hu
    · cases hu
theorem info40 : (Try.prog.info? 40).map (fun i => (i.zero, i.size, i.bytes)) = some (some (.agg #[.string ⟨#[]⟩, .string ⟨#[]⟩]), 2, 32) := by kernel_rfl

/-- 'append' where there is no room: in new memory -/
theorem run_append_full (w : World) (g off i : Nat) (ps qs : List Pr) (o : Addr) (q c : Nat) (ty : TypeId) (h : RdP w (some ⟨g, off, none⟩) i ps) (ho : RdP w (some o) q qs) (hq : 0 < q) (hi : i + q ≤ 1000000000000) :
    ∃ v' w', (Builtin.append_ #[27, 27] ty #[.slice (some ⟨g, off, none⟩) i i, .slice (some o) q c]).run Try.prog w = .ok v' w' ∧ w'.ownsRow w.heap.size 40 2 v' (i + q) ((ps ++ qs).flatMap pc) ∧ Below w.heap.size w w' := by
  obtain ⟨i0, hi0, hii⟩ := Option.map_eq_some_iff.1 info40
  simp only [Prod.mk.injEq] at hii
  obtain ⟨b', o', e, _⟩ := ho.2 hq
  cases e
  have hl1 : (ps.flatMap pc).length = i * i0.size := by rw [flat_len, h.1, hii.2.1]
  have hl2 : (qs.flatMap pc).length = q * i0.size := by rw [flat_len, ho.1, hii.2.1]
  have hr := run_append_grow (P := Try.prog) w 27 ty 40 i0 _ Try.underlying27 hi0 hii.1 ⟨g, off, none⟩ i i (ps.flatMap pc) hl1 (by intro j u hu; rw [Addr.add_lit]; exact h.cells j u hu)
    ⟨b', o', none⟩ q c (qs.flatMap pc) hl2 (by intro j u hu; rw [Addr.add_lit]; exact ho.cells j u hu) (by omega) (by omega) (growslice_fits_wide (by omega) (by rw [hii.2.2]; omega))
  refine ⟨_, _, hr, ?_, (Below.refl w.heap.size w).drew.alloc (Nat.le_refl _) _⟩
  have hge := grownCap_ge w (i + q) i 40
  have hcm : grownCap w (i + q) i 40 ≤ maxLen := grownCap_le_maxLen w (i + q) i 40 (by unfold maxLen; omega)
  have hlen : ((ps ++ qs).flatMap pc).length = (i + q) * 2 := by rw [flat_len, List.length_append, h.1, ho.1]
  refine ⟨hlen, .inr ⟨w.heap.size, _, _, rfl, Nat.le_refl _, heap_alloc_new w.drew _, hge, hcm, ?_, ?_⟩⟩
  · have hz2 : (Value.agg #[.string ⟨#[]⟩, .string ⟨#[]⟩]).cells.size = 2 := rfl
    simp only [Array.size_append, List.size_toArray, size_zeroCells, hl1, hl2, hii.2.1, hz2, ← Nat.add_mul]
    congr 1
    omega
  · simp only [Array.toList_append, List.append_assoc, List.flatMap_append]
    rw [← List.append_assoc, ← hlen, List.flatMap_append]
    exact List.take_left
theorem step_append_full {ops : Array Oper} {o : Oper} {a : Act} {K : Act → World → Prop} {Q : Exit → Act → World → Prop} {E : Prop} (hw : Region.wanted o (yielded ops a.tmps) = true) (dd : Tmp) (hdd : o.dst = some dd) (s x : Operand)
    (ho : o.op = .call { callee := .builtin .append, args := #[s, x], argTypes := #[27, 27] }) (w : World)
    (g off i : Nat) (ps qs : List Pr) (d : Addr) (q c : Nat) (hs : a.eval s = .slice (some ⟨g, off, none⟩) i i) (hx : a.eval x = .slice (some d) q c) (h : RdP w (some ⟨g, off, none⟩) i ps) (hd : RdP w (some d) q qs) (hq : 0 < q) (hi : i + q ≤ 1000000000000)
    (hk : ∀ v' w', Hid (w'.ownsRow w.heap.size 40 2 v' (i + q) ((ps ++ qs).flatMap pc)) → Hid (Below w.heap.size w w') → K (a.put (some dd) v') w') : if Region.wanted o (yielded ops a.tmps) = true then Oper.wp Try.prog o a w K Q else E := by
  rw [if_pos hw]
  obtain ⟨v', w', hr, h2, h3⟩ := run_append_full w g off i ps qs d q c o.type h hd hq hi
  unfold Oper.wp execOp
  simp only [ho, resolve, invoke, builtin, Sem.run_bind, Sem.run_pure, Result.andThen_ok, List.map_toArray, List.map_cons, List.map_nil, hs, hx, hr]
  rw [← hdd] at hk
  exact hk v' w' h2 h3
theorem step_append_own {ops : Array Oper} {o : Oper} {a : Act} {K : Act → World → Prop} {Q : Exit → Act → World → Prop} {E : Prop} (hw : Region.wanted o (yielded ops a.tmps) = true) (dd : Tmp) (hdd : o.dst = some dd) (s x : Operand)
    (ho : o.op = .call { callee := .builtin .append, args := #[s, x], argTypes := #[27, 27] }) (w : World) (B : Nat) (hB : B ≤ w.heap.size)
    (v : Value) (n : Nat) (ps qs : List Pr) (g off q c : Nat) (hs : a.eval s = v) (hx : a.eval x = .slice (some ⟨g, off, none⟩) q c) (h : w.ownsRow B 40 2 v n (ps.flatMap pc)) (hd : RdP w (some ⟨g, off, none⟩) q qs) (hi : n + q ≤ 1000000000000)
    (hk : ∀ v' w', Hid (w'.ownsRow B 40 2 v' (n + q) ((ps ++ qs).flatMap pc)) → Hid (w.grownBy w' v.ownBlock) → K (a.put (some dd) v') w') : if Region.wanted o (yielded ops a.tmps) = true then Oper.wp Try.prog o a w K Q else E := by
  rw [if_pos hw]
  obtain ⟨i0, hi0, hii⟩ := Option.map_eq_some_iff.1 info40
  simp only [Prod.mk.injEq] at hii
  obtain ⟨v', w', hr, h2, h3, _⟩ := run_append_own_wide (P := Try.prog) w B 27 o.type 40 i0 _ 2 32 Try.underlying27 hi0 hii.1 hii.2.1 hii.2.2 rfl (by omega) v n (ps.flatMap pc) h ⟨g, off, none⟩ q c (qs.flatMap pc) (by rw [flat_len, hd.1]) (by intro j u hu; rw [Addr.add_lit]; exact hd.cells j u hu) (flat_one qs) (by unfold maxLen; omega) (by omega) hB
  unfold Oper.wp execOp
  simp only [ho, resolve, invoke, builtin, Sem.run_bind, Sem.run_pure, Result.andThen_ok, List.map_toArray, List.map_cons, List.map_nil, hs, hx, hr]
  rw [← hdd] at hk
  exact hk v' w' (by rw [List.flatMap_append]; exact h2) h3

theorem part_zero (w : World) (g off n cap j : Nat) (h2 : j ≤ cap) : Calls Try.prog 48 #[.slice (some ⟨g, off, none⟩) n cap, .int .i64 0, .int .i64 (j : Int)] w fun e w' => e = .returned (.slice (some ⟨g, off, none⟩) j j) ∧ w = w' := by
  have q3 : (j : Int) ≤ (cap : Int) := by omega
  go_enter Try.func48, Try.ntmps48
  go_wp2
  go_ret
  exact ⟨rfl, rfl⟩

theorem spl_below {w w3 w4 : World} {v3 : Value} {n : Nat} {xs : List Value} (h : Below w.drew.heap.size w.drew w3) (ho : w3.ownsRow w.drew.heap.size 40 2 v3 n xs) (hg : w3.grownBy w4 v3.ownBlock) : Below w.heap.size w w4 := by
  refine ⟨hg.os.trans h.os, hg.tape.trans h.tape, hg.output.trans h.output, Nat.le_trans h.size hg.size, fun b hb => ?_⟩
  refine (hg.block b (Nat.lt_of_lt_of_le hb h.size) fun e => ?_).trans (h.block b hb)
  have := (ho.lt b e.symm).1
  have hb' : b < w.drew.heap.size := hb
  omega

set_option maxRecDepth 100000 in
theorem spliced_is (w : World) (g off n cap i j : Nat) (ps qs : List Pr) (o : Addr) (q c : Nat) (h : RdP w (some ⟨g, off, none⟩) n ps) (hnc : n ≤ cap) (hij : i ≤ j) (hjn : j ≤ n) (ho : RdP w (some o) q qs) (hq : 0 < q) (hb : n + q ≤ 100000000000) :
    Calls Try.prog 40 #[.slice (some ⟨g, off, none⟩) n cap, .int .i64 (i : Int), .int .i64 (j : Int), .slice (some o) q c] w fun e w' => ∃ v', e = .returned v' ∧ Hid (w'.ownsRow w.heap.size 40 2 v' (i + q + (n - j)) ((ps.take i ++ qs ++ ps.drop j).flatMap pc)) ∧ Hid (Below w.heap.size w w') := by
  have HR : Hid (RdP w.drew (some ⟨g, off, none⟩) i (ps.take i)) := (h.below (Below.refl _ w).drew (Nat.le_refl _)).take (by omega)
  have HO : Hid (RdP w.drew (some o) q qs) := ho.below (Below.refl _ w).drew (Nat.le_refl _)
  have HQ : Hid (0 < q) := hq
  have HNN : Hid (n + q ≤ 100000000000 ∧ i ≤ j ∧ j ≤ n ∧ n ≤ cap) := ⟨hb, hij, hjn, hnc⟩
  have q1 : (0 : Int) ≤ (j : Int) := by omega
  have q2 : (j : Int) ≤ (n : Int) := by omega
  have q3 : (n : Int) ≤ (cap : Int) := by omega
  by_cases hcj : cap = j
  · have hjn' : j = n := by omega
    subst hcj
    subst hjn'
    have HP : Hid (ps.drop cap = []) := List.drop_eq_nil_of_le (by rw [h.1]; exact Nat.le_refl _)
    have HD : Hid (∀ W, Below w.heap.size w W → RdP W (some ⟨g, off, none⟩) 0 (ps.drop cap)) := fun W hW => by rw [HP.out]; exact ⟨rfl, fun h => absurd h (by omega)⟩
    have q5 : i ≤ cap := by omega
    clear h hnc hij hjn ho hq hb
    go_enter Try.func40, Try.ntmps40
    go_wp2
    go_region_held_law (fun _ => True) (trivial) (first
      | (go_at_call 48; refine (part_zero w.drew g off cap cap i q5).mono ?_; rintro e w2 ⟨rfl, rfl⟩)
      | (refine step_append_full (by rfl) 13 rfl _ _ rfl w.drew g off i (ps.take i) qs o q c rfl rfl HR.out HO.out HQ.out (by have := HNN.out; omega) ?_; intro v3 w3 HO3 HB3)
      | (refine step_append_own (by rfl) 17 rfl _ _ rfl w3 w.heap.size HB3.out.size v3 (i + q) (ps.take i ++ qs) (ps.drop cap) g off 0 0 rfl rfl HO3.out (HD.out w3 ((Below.refl _ w).drew.trans HB3.out)) (by have := HNN.out; omega) ?_; intro v4 w4 HO4 HG4))
    go_wp2
    go_ret
    exact ⟨v4, rfl, by rw [Nat.sub_self]; exact HO4, spl_below HB3.out HO3.out HG4.out⟩
  · have HD : Hid (∀ W, Below w.heap.size w W → RdP W (some ⟨g, off + j * 2, none⟩) (n - j) (ps.drop j)) := fun W hW => (h.below hW (Nat.le_refl _)).drop hjn
    have HC : Hid (¬ cap = j) := hcj
    have q4 : ¬ cap - j = 0 := by omega
    have q5 : i ≤ cap := by omega
    clear h hnc hij hjn ho hq hb hcj
    go_enter Try.func40, Try.ntmps40
    go_wp2
    go_region_held_law (fun _ => True) (trivial) (first
      | (go_at_call 48; refine (part_zero w.drew g off n cap i q5).mono ?_; rintro e w2 ⟨rfl, rfl⟩)
      | (refine step_append_full (by rfl) 13 rfl _ _ rfl w.drew g off i (ps.take i) qs o q c rfl rfl HR.out HO.out HQ.out (by have := HNN.out; omega) ?_; intro v3 w3 HO3 HB3)
      | (refine step_append_own (by rfl) 17 rfl _ _ rfl w3 w.heap.size HB3.out.size v3 (i + q) (ps.take i ++ qs) (ps.drop j) g (off + j * 2) (n - j) (cap - j) rfl rfl HO3.out (HD.out w3 ((Below.refl _ w).drew.trans HB3.out)) (by have := HNN.out; omega) ?_; intro v4 w4 HO4 HG4))
    go_wp2
    go_ret
    exact ⟨v4, rfl, by first | exact HO4 | (have e := HO4.out; simp only [List.flatMap_append, List.append_assoc] at e; exact e), spl_below HB3.out HO3.out HG4.out⟩
end Go.Proofs.Ytnagknlfboadkaa.Oct

/- Layer 7 (tree): a pair put into a leaf that has room, and into nothing. -/
namespace Go.Proofs.Ytnagknlfboadkaa.Oct
open Go.RowKit

/-- one node in the place of one -/
def one (nd : Nat) : Value := .agg #[.pointer (some ⟨nd, 0, none⟩), .string ⟨#[]⟩, .string ⟨#[]⟩, .pointer none]
theorem Nd.new (w : World) (g n cap : Nat) (ps : List Pr) (h : RdP w (some ⟨g, 0, none⟩) n ps) : Nd (w.alloc (.cells #[.slice (some ⟨g, 0, none⟩) n cap, .slice none 0 0] 67)) w.heap.size (some ⟨g, 0, none⟩) n cap ps (.slice none 0 0) :=
  ⟨Blk.new _ _ _, h.below ((Below.refl _ w).alloc (Nat.le_refl _) _) (Nat.le_refl _)⟩

theorem results_half {fn : Func} {p : Tmp} (hf : fn.results = #[.cell p 59]) {tm : Array Value} {W : World} {b nd : Nat} (h : tm.getD p undef = .pointer (some ⟨b, 0, none⟩)) (hb : Blk W b 59 [.pointer (some ⟨nd, 0, none⟩), .string ⟨#[]⟩, .string ⟨#[]⟩, .pointer none]) : (results fn tm).run Try.prog W = .ok (one nd) W := by
  exact results_cell_row (P := Try.prog) hf tm W b 59 _ (0, 0) _ h hb Try.underlying59 rfl (by kernel_rfl)
theorem cut_is (w : World) (g n cap : Nat) (ps : List Pr) (h : RdP w (some ⟨g, 0, none⟩) n ps) (hn : n ≤ 7) :
    Calls Try.prog 44 #[.slice (some ⟨g, 0, none⟩) n cap, .slice none 0 0] w fun e w' => ∃ nd, e = .returned (one nd) ∧ Hid (Nd w' nd (some ⟨g, 0, none⟩) n cap ps (.slice none 0 0)) ∧ Hid (Below w.heap.size w w' ∧ w.heap.size ≤ nd) := by
  have HR : Hid (RdP w (some ⟨g, 0, none⟩) n ps) := h
  have q1 : (n : Int) ≤ 7 := by omega
  clear h hn
  go_enter Try.func44, Try.ntmps44
  go_wp2
  have hb := Blk.alloc (Blk.new w #[Value.pointer (some { block := w.heap.size + 1, off := 0 }), Value.string { data := #[] }, Value.string { data := #[] }, Value.pointer none] 59) (Obj.cells #[Value.slice (some { block := g, off := 0 }) n cap, Value.slice none 0 0] 67)
  have hB : Below w.heap.size w (w.alloc (Obj.cells #[Value.pointer (some { block := w.heap.size + 1, off := 0 }), Value.string { data := #[] }, Value.string { data := #[] }, Value.pointer none] 59)) := (Below.refl _ w).alloc (Nat.le_refl _) _
  refine bodyPost_ret (results_half rfl rfl hb) rfl ?_
  exact ⟨_, rfl, by show Nd _ _ _ _ _ _ _; simpa using Nd.new _ g n cap ps (HR.out.below hB (Nat.le_refl _)), hB.alloc (by simp) _, by simp⟩
theorem put_nil (w : World) (x : Pr) :
    Calls Try.prog 33 #[.pointer none, .agg #[.string x.1, .string x.2]] w fun e w' => ∃ nd g, e = .returned (one nd) ∧ Hid (Nd w' nd (some ⟨g, 0, none⟩) 1 1 [x] (.slice none 0 0)) ∧ Hid (Below w.heap.size w w' ∧ w.heap.size ≤ nd) := by
  obtain ⟨k, v⟩ := x
  go_enter Try.func33, Try.ntmps33
  go_wp2
  have hb := (((Blk.new (w.alloc (Obj.cells #[Value.string k, Value.string v] 40)) #[Value.pointer (some { block := w.heap.size + 1 + 1 + 1, off := 0 }), Value.string { data := #[] }, Value.string { data := #[] }, Value.pointer none] 59).alloc (Obj.cells #[Value.string k, Value.string v] 40))).alloc (Obj.cells #[Value.slice (some { block := w.heap.size + 1 + 1, off := 0 }) 1 1, Value.slice none 0 0] 67)
  have hB : Below w.heap.size w (((w.alloc (Obj.cells #[Value.string k, Value.string v] 40)).alloc (Obj.cells #[Value.pointer (some { block := w.heap.size + 1 + 1 + 1, off := 0 }), Value.string { data := #[] }, Value.string { data := #[] }, Value.pointer none] 59)).alloc (Obj.cells #[Value.string k, Value.string v] 40)) := (((Below.refl _ w).alloc (Nat.le_refl _) _).alloc (by simp) _).alloc (by simp; omega) _
  have hb2 := Blk.new ((w.alloc (Obj.cells #[Value.string k, Value.string v] 40)).alloc (Obj.cells #[Value.pointer (some { block := w.heap.size + 1 + 1 + 1, off := 0 }), Value.string { data := #[] }, Value.string { data := #[] }, Value.pointer none] 59)) #[Value.string k, Value.string v] 40
  rw [World.size_alloc, World.size_alloc] at hb2
  rw [World.size_alloc] at hb
  refine bodyPost_ret (results_half rfl rfl hb) rfl ?_
  refine ⟨w.heap.size + 1 + 1 + 1, w.heap.size + 1 + 1, rfl, ?_, hB.alloc (by simp; omega) _, by omega⟩
  have := Nd.new _ (w.heap.size + 1 + 1) 1 1 [(k, v)] (rd_of_cells (ps := [(k, v)]) (off := 0) (fun _ => hb2.row) (fun j u hu => by rw [Nat.zero_add]; exact hb2.cell hu))
  rw [World.size_alloc, World.size_alloc, World.size_alloc] at this
  exact this
theorem whole_is (w : World) (nd : Nat) : Calls Try.prog 34 #[one nd] w fun e w' => e = .returned (.pointer (some ⟨nd, 0, none⟩)) ∧ Hid (Below w.heap.size w w') := by
  unfold one
  go_enter Try.func34, Try.ntmps34
  go_wp2
  go_ret
  exact ⟨rfl, (Below.refl _ w).alloc (Nat.le_refl _) _⟩

theorem spliced_J (w : World) (g off n cap i j : Nat) (I J : Int) (hI : I = (i : Int)) (hJ : J = (j : Int)) (ps qs : List Pr) (o : Addr) (q c : Nat) (h : RdP w (some ⟨g, off, none⟩) n ps) (hnc : n ≤ cap) (hij : i ≤ j) (hjn : j ≤ n) (ho : RdP w (some o) q qs) (hq : 0 < q) (hb : n + q ≤ 100000000000) :
    Calls Try.prog 40 #[.slice (some ⟨g, off, none⟩) n cap, .int .i64 I, .int .i64 J, .slice (some o) q c] w fun e w' => ∃ (g' N cap' : Nat) (R : List Pr), e = .returned (.slice (some ⟨g', 0, none⟩) N cap') ∧ Hid (R = ps.take i ++ qs ++ ps.drop j ∧ N = R.length ∧ N ≤ cap' ∧ w.heap.size ≤ g') ∧ Hid (RdP w' (some ⟨g', 0, none⟩) N R) ∧ Hid (Below w.heap.size w w') := by
  subst hI; subst hJ
  refine (spliced_is w g off n cap i j ps qs o q c h hnc hij hjn ho hq hb).mono ?_
  rintro e w' ⟨v', rfl, HO, HB⟩
  have hl : (ps.take i ++ qs ++ ps.drop j).length = i + q + (n - j) := by rw [List.length_append, List.length_append, List.length_take, List.length_drop, h.1, ho.1]; omega
  have HO' := HO.out
  rw [← hl] at HO'
  obtain ⟨g', cap', rfl, h1, h4, h3⟩ := own_rd HO' (by omega)
  exact ⟨g', _, cap', _, rfl, ⟨rfl, rfl, h3, h4⟩, h1, HB⟩
theorem RdP.grown {w w' : World} {g off n b : Nat} {ps : List Pr} (h : RdP w (some ⟨g, off, none⟩) n ps) (hg : w.grownBy w' (some b)) (hne : g ≠ b) : RdP w' (some ⟨g, off, none⟩) n ps := by
  refine ⟨h.1, fun hp => ?_⟩
  obtain ⟨g', off', e, h1, h2⟩ := h.2 hp
  cases e
  refine ⟨g, off, rfl, h1.same (hg.block g h1.lt (by simpa using hne)), fun k x hk => ?_⟩
  have := h2 k x hk
  exact ⟨hg.cell this.1 (by simpa using hne), hg.cell this.2 (by simpa using hne)⟩
/-- one node, written into a result's block -/
def put4 (W : World) (b nd : Nat) : World := (((W.setCell ⟨b, 0, none⟩ (.pointer (some ⟨nd, 0, none⟩))).setCell ⟨b, 1, none⟩ (.string ⟨#[]⟩)).setCell ⟨b, 2, none⟩ (.string ⟨#[]⟩)).setCell ⟨b, 3, none⟩ (.pointer none)
theorem put4_blk {W : World} {b nd : Nat} (h : Blk W b 59 [Value.pointer none, Value.string { data := #[] }, Value.string { data := #[] }, Value.pointer none]) : Blk (put4 W b nd) b 59 [.pointer (some ⟨nd, 0, none⟩), .string ⟨#[]⟩, .string ⟨#[]⟩, .pointer none] :=
  (((h.set 0 (.pointer (some ⟨nd, 0, none⟩))).set 1 (.string ⟨#[]⟩)).set 2 (.string ⟨#[]⟩)).set 3 (.pointer none)
theorem put4_grown (W : World) (b nd : Nat) : W.grownBy (put4 W b nd) (some b) :=
  grown_tr (grown_tr (grown_tr (grown_setCell _ _ _ _) (grown_setCell _ _ _ _)) (grown_setCell _ _ _ _)) (grown_setCell _ _ _ _)
theorem put4_size (W : World) (b nd : Nat) : (put4 W b nd).heap.size = W.heap.size := by simp [put4]
theorem put4_below {B : Nat} {W W' : World} {b nd : Nat} (h : Below B W W') (hb : B ≤ b) : Below B W (put4 W' b nd) :=
  (((h.setCell (p := ⟨b, 0, none⟩) hb _).setCell (p := ⟨b, 1, none⟩) hb _).setCell (p := ⟨b, 2, none⟩) hb _).setCell (p := ⟨b, 3, none⟩) hb _
theorem cut_le {ps R : List Pr} {x : Pr} {k N : Nat} (h : R = ps.take k ++ [x] ++ ps.drop k) (hN : N = R.length) (hk : k ≤ ps.length) (hn : ps.length ≤ 6) : N ≤ 7 := by
  rw [hN, h]; simp; omega
/-- pairs with one more, or another one in a pair's place -/
def putP (ps : List Pr) (x : Pr) (k : Nat) : List Pr := ps.take k ++ [x] ++ ps.drop (if isP ps x.1 k = true then k + 1 else k)
set_option maxRecDepth 100000 in
set_option maxHeartbeats 1000000 in
theorem put_leaf (w : World) (nd g off n cap : Nat) (ps : List Pr) (x : Pr) (h : Nd w nd (some ⟨g, off, none⟩) n cap ps (.slice none 0 0)) (hm : Mono ps x.1) (hn : n ≤ 6) (hnc : n ≤ cap) :
    Calls Try.prog 33 #[.pointer (some ⟨nd, 0, none⟩), .agg #[.string x.1, .string x.2]] w fun e w' => ∃ nd' g' cap' k, e = .returned (one nd') ∧ Hid (Nd w' nd' (some ⟨g', 0, none⟩) (putP ps x k).length cap' (putP ps x k) (.slice none 0 0)) ∧ Hid (AtP ps x.1 k) ∧ Hid (Below w.heap.size w w' ∧ w.heap.size ≤ nd' ∧ (putP ps x k).length ≤ cap') := by
  have HN : Hid (n ≤ 6 ∧ n ≤ cap) := ⟨hn, hnc⟩
  obtain ⟨k0, v0⟩ := x
  have HM : Hid (Mono ps k0) := hm
  have HD : Hid (Nd w nd (some ⟨g, off, none⟩) n cap ps (.slice none 0 0)) := h
  have HL : Hid (nd < w.heap.size) := h.blk.lt
  have HB0 : Hid (Below w.heap.size w ((w.alloc (Obj.cells #[Value.string k0, Value.string v0] 40)).alloc (Obj.cells #[Value.pointer none, Value.string { data := #[] }, Value.string { data := #[] }, Value.pointer none] 59))) := ((Below.refl _ w).alloc (Nat.le_refl _) _).alloc (by simp) _
  clear hm hn hnc h
  go_enter Try.func33, Try.ntmps33
  go_wp2_with fail
  refine (place_is _ nd _ n cap ps _ k0 (HD.out.below HB0.out (Nat.le_refl _)) HM.out (by have := HN.out; omega)).mono ?_
  rintro e w1 ⟨k, rfl, HA, HB1⟩
  have hS : w.heap.size + 2 ≤ w1.heap.size := by have := HB1.out.size; simp at this; omega
  have HD1 : Hid (Nd w1 nd (some ⟨g, off, none⟩) n cap ps (.slice none 0 0)) := (HD.out.below HB0.out (Nat.le_refl _)).below HB1.out (Nat.le_refl _)
  have HW : Hid (Below w.heap.size w w1) := HB0.out.trans (HB1.out.mono (by simp; omega))
  have HX : Hid (Blk w1 w.heap.size 40 [.string k0, .string v0]) := ((Blk.new w #[Value.string k0, Value.string v0] 40).alloc _).below HB1.out (by simp; omega)
  have HY : Hid (Blk w1 (w.heap.size + 1) 59 [Value.pointer none, Value.string { data := #[] }, Value.string { data := #[] }, Value.pointer none]) := by
    have e := Blk.new (w.alloc (Obj.cells #[Value.string k0, Value.string v0] 40)) #[Value.pointer none, Value.string { data := #[] }, Value.string { data := #[] }, Value.pointer none] 59
    rw [World.size_alloc] at e
    exact e.below HB1.out (by simp)
  have c0 := HD1.out.blk.cell (i := 0) rfl
  have c1 := HD1.out.blk.cell (i := 1) rfl
  have x0 := HX.out.cell (i := 0) rfl
  have x1 := HX.out.cell (i := 1) rfl
  clear HB1 HB0
  have hkn : k ≤ n := by rw [← HD.out.rd.1]; exact HA.out.1
  have HR1 : Hid (RdP (w1.alloc (.cells #[.string k0, .string v0] 40)).drew (some ⟨w1.heap.size, 0, none⟩) 1 [(k0, v0)]) := by
    have hb2 := (Blk.new w1 #[.string k0, .string v0] 40).drew
    exact rd_of_cells (ps := [(k0, v0)]) (off := 0) (fun _ => hb2.row) (fun j u hu => by rw [Nat.zero_add]; exact hb2.cell hu)
  have HB2 : Hid (Below w1.heap.size w1 (w1.alloc (.cells #[.string k0, .string v0] 40)).drew) := ((Below.refl _ w1).alloc (Nat.le_refl _) _).drew
  have HKEEP : Hid (∀ W, Below (w.heap.size + 1) w1 W → (fun w' => w'.cell? ⟨nd, 0, none⟩ = some (.slice (some ⟨g, off, none⟩) n cap) ∧ w'.cell? ⟨nd, 1, none⟩ = some (.slice none 0 0) ∧ w'.cell? ⟨w.heap.size, 0, none⟩ = some (.string k0) ∧ w'.cell? ⟨w.heap.size, 1, none⟩ = some (.string v0)) W) := fun W hW => ⟨(hW.cell (p := ⟨nd, 0, none⟩) (by have := HL.out; show nd < w.heap.size + 1; omega)).trans c0, (hW.cell (p := ⟨nd, 1, none⟩) (by have := HL.out; show nd < w.heap.size + 1; omega)).trans c1, (hW.cell (p := ⟨w.heap.size, 0, none⟩) (by show w.heap.size < w.heap.size + 1; omega)).trans x0, (hW.cell (p := ⟨w.heap.size, 1, none⟩) (by show w.heap.size < w.heap.size + 1; omega)).trans x1⟩
  have HL1 : Hid (w.heap.size + 1 ≤ w1.heap.size) := by show _ ≤ _; omega
  cases hi : isP ps k0 k with
  | true =>
    have hk1 : k < n := by
      rw [← HD.out.rd.1]
      cases hx : ps[k]? with
      | some x => exact (List.getElem?_eq_some_iff.1 hx).1
      | none => simp only [isP, hx] at hi; cases hi
    have HP : Hid (putP ps (k0, v0) k = ps.take k ++ [(k0, v0)] ++ ps.drop (k + 1)) := by show _ = _; simp only [putP, hi, if_true]
    have q1 : (k : Int) + 1 ≤ 7 := by have := HN.out; omega
    have HJ : Hid (IntKind.i64.wrap ((k : Int) + 1) = ((k + 1 : Nat) : Int)) := by show _ = _; rw [IntKind.wrap_i64]; omega
    clear hi
    go_wp2_with fail
    go_region_held_law (fun w' => w'.cell? ⟨nd, 0, none⟩ = some (.slice (some ⟨g, off, none⟩) n cap) ∧ w'.cell? ⟨nd, 1, none⟩ = some (.slice none 0 0) ∧ w'.cell? ⟨w.heap.size, 0, none⟩ = some (.string k0) ∧ w'.cell? ⟨w.heap.size, 1, none⟩ = some (.string v0))
      (first | with_reducible exact HKEEP.out _ (Below.refl _ w1).drew | with_reducible exact HKEEP.out _ (HB2.out.mono HL1.out) | with_reducible exact HKEEP.out _ HB4.out | with_reducible exact HKEEP.out _ (HB4.out.alloc (Nat.le_of_lt hS2) _) | exact HKEEP.out _ (Below.alloc (Below.setCell (Below.setCell (Below.setCell (Below.setCell HB4.out (Nat.le_refl _) _) (Nat.le_refl _) _) (Nat.le_refl _) _) (Nat.le_refl _) _) (by simp; omega) _))
      (first
      | (go_at_call 40; refine (spliced_J (w1.alloc (.cells #[.string k0, .string v0] 40)).drew g off n cap k (k + 1) _ _ rfl HJ.out ps [(k0, v0)] ⟨w1.heap.size, 0, none⟩ 1 1 ((HD1.out.below HB2.out (Nat.le_refl _)).rd) HN.out.2 (by omega) (by omega) HR1.out (by omega) (by have := HN.out; omega)).mono ?_; rintro e w2 ⟨g2, N2, cap2, R2, rfl, HE2, HR2, hB2⟩; have HB3 : Hid (Below w1.heap.size w1 w2) := HB2.out.trans (hB2.out.mono HB2.out.size); clear hB2;
          have HY2 : Hid (Blk w2 (w.heap.size + 1) 59 [Value.pointer none, Value.string { data := #[] }, Value.string { data := #[] }, Value.pointer none]) := HY.out.below HB3.out (by omega);
          have hS2 : w.heap.size + 1 < w2.heap.size := HY2.out.lt; have HB4 : Hid (Below (w.heap.size + 1) w1 w2) := HB3.out.mono HL1.out;
          have y0 := HY2.out.cell (i := 0) rfl; have y1 := HY2.out.cell (i := 1) rfl; have y2 := HY2.out.cell (i := 2) rfl; have y3 := HY2.out.cell (i := 3) rfl;
          have f0 := HY2.out.free 0; have f1 := HY2.out.free 1; have f2 := HY2.out.free 2; have f3 := HY2.out.free 3))
    go_wp2
    have hb := (put4_blk (nd := w2.heap.size) HY2.out).alloc (Obj.cells #[Value.slice (some { block := g2, off := 0 }) N2 cap2, Value.slice none 0 0] 67)
    refine bodyPost_ret (results_half rfl rfl hb) rfl ?_
    have hE := HE2.out
    have hg2 : g2 ≠ w.heap.size + 1 := by have := hE.2.2.2; simp at this; omega
    have hN := Nd.new (put4 w2 (w.heap.size + 1) w2.heap.size) g2 N2 cap2 R2 (HR2.out.grown (put4_grown _ _ _) hg2)
    rw [put4_size] at hN
    have hR : putP ps (k0, v0) k = R2 := by rw [HP.out, hE.1]
    refine ⟨w2.heap.size, g2, cap2, k, rfl, ?_, HA, ?_⟩
    · rw [hR, ← hE.2.1]; exact hN
    · refine ⟨(put4_below (HW.out.trans (HB3.out.mono (by omega))) (by omega)).alloc (by rw [put4_size]; omega) _, by omega, by rw [hR, ← hE.2.1]; exact hE.2.2.1⟩
  | false =>
    have HP : Hid (putP ps (k0, v0) k = ps.take k ++ [(k0, v0)] ++ ps.drop k) := by show _ = _; simp [putP, hi]
    clear hi
    go_wp2_with (go_at_call 39; refine (leaf_is w1 nd c1).mono ?_; rintro e w2 ⟨rfl, rfl⟩)
    go_region_held_law (fun w' => w'.cell? ⟨nd, 0, none⟩ = some (.slice (some ⟨g, off, none⟩) n cap) ∧ w'.cell? ⟨nd, 1, none⟩ = some (.slice none 0 0) ∧ w'.cell? ⟨w.heap.size, 0, none⟩ = some (.string k0) ∧ w'.cell? ⟨w.heap.size, 1, none⟩ = some (.string v0))
      (first | with_reducible exact HKEEP.out _ (Below.refl _ w1).drew | with_reducible exact HKEEP.out _ (HB2.out.mono HL1.out) | with_reducible exact HKEEP.out _ HB4.out | with_reducible exact HKEEP.out _ HB6.out | exact HKEEP.out _ (Below.setCell (Below.setCell (Below.setCell (Below.setCell HB6.out (Nat.le_refl _) _) (Nat.le_refl _) _) (Nat.le_refl _) _) (Nat.le_refl _) _))
      (first
      | (go_at_call 40; refine (spliced_J (w1.alloc (.cells #[.string k0, .string v0] 40)).drew g off n cap k k _ _ rfl rfl ps [(k0, v0)] ⟨w1.heap.size, 0, none⟩ 1 1 ((HD1.out.below HB2.out (Nat.le_refl _)).rd) HN.out.2 (by omega) (by omega) HR1.out (by omega) (by have := HN.out; omega)).mono ?_; rintro e w2 ⟨g2, N2, cap2, R2, rfl, HE2, HR2, hB2⟩; have HB3 : Hid (Below w1.heap.size w1 w2) := HB2.out.trans (hB2.out.mono HB2.out.size); clear hB2;
          have HB4 : Hid (Below (w.heap.size + 1) w1 w2) := HB3.out.mono HL1.out)
      | (go_at_call 44; refine (cut_is w2 g2 N2 cap2 R2 HR2.out (cut_le HE2.out.1 HE2.out.2.1 (by rw [HD.out.rd.1]; exact hkn) (by rw [HD.out.rd.1]; exact HN.out.1))).mono ?_; rintro e w3 ⟨nd3, rfl, HN3, HB5⟩; unfold one; have HB6 : Hid (Below (w.heap.size + 1) w1 w3) := HB4.out.trans (HB5.out.1.mono (Nat.le_trans HL1.out HB3.out.size));
          have HY2 : Hid (Blk w3 (w.heap.size + 1) 59 [Value.pointer none, Value.string { data := #[] }, Value.string { data := #[] }, Value.pointer none]) := HY.out.below (HB3.out.trans (HB5.out.1.mono HB3.out.size)) (by omega);
          have hS2 : w.heap.size + 1 < w3.heap.size := HY2.out.lt;
          have y0 := HY2.out.cell (i := 0) rfl; have y1 := HY2.out.cell (i := 1) rfl; have y2 := HY2.out.cell (i := 2) rfl; have y3 := HY2.out.cell (i := 3) rfl;
          have f0 := HY2.out.free 0; have f1 := HY2.out.free 1; have f2 := HY2.out.free 2; have f3 := HY2.out.free 3))
    go_wp2
    have hb := put4_blk (nd := nd3) HY2.out
    refine bodyPost_ret (results_half rfl rfl hb) rfl ?_
    have hE := HE2.out
    have hg2 : g2 ≠ w.heap.size + 1 := by have := hE.2.2.2; simp at this; omega
    have hnd : nd3 ≠ w.heap.size + 1 := by have := HB5.out.2; have := HB3.out.size; omega
    have hR : putP ps (k0, v0) k = R2 := by rw [HP.out, hE.1]
    refine ⟨nd3, g2, cap2, k, rfl, ?_, HA, ?_⟩
    · rw [hR, ← hE.2.1]
      exact ⟨HN3.out.blk.kept (put4_grown _ _ _) (by simpa using hnd), HN3.out.rd.grown (put4_grown _ _ _) hg2⟩
    · have hB := HB3.out.trans (HB5.out.1.mono HB3.out.size)
      refine ⟨put4_below (HW.out.trans (hB.mono (by omega))) (by omega), by have := HB5.out.2; have := HB3.out.size; omega, by rw [hR, ← hE.2.1]; exact hE.2.2.1⟩
end Go.Proofs.Ytnagknlfboadkaa.Oct

/- Layer 7 (tree): Put of a map that has nothing, or one leaf with room. -/
namespace Go.Proofs.Ytnagknlfboadkaa.Oct
open Go.RowKit

theorem AtP.uniq {ps : List Pr} {key : ByteArray} {k l : Nat} (h : AtP ps key k) (h' : AtP ps key l) : k = l := by
  have aux : ∀ {k l : Nat}, AtP ps key k → AtP ps key l → ¬ k < l := by
    intro k l h h' hlt
    have hk : k < ps.length := Nat.lt_of_lt_of_le hlt h'.1
    have e1 := h'.2.1 k _ hlt (List.getElem?_eq_getElem hk)
    have e2 := h.2.2 k _ (Nat.le_refl _) (List.getElem?_eq_getElem hk)
    rw [e1] at e2; cases e2
  have := aux h h'
  have := aux h' h
  omega
theorem Mp.keep {w w' : World} {m : Nat} {r : Value} {n B : Nat} (h : Mp w m r n) (hb : Below B w w') (hB : w.heap.size ≤ B) : Mp w' m r n := h.below hb (Nat.lt_of_lt_of_le h.lt hB)

theorem below_grown {w w' : World} (h : Below w.heap.size w w') (row : Option Nat) : w.grownBy w' row := ⟨h.os, h.tape, h.output, h.size, fun k hk _ => h.block k hk⟩
/-- the pairs lie in no map -/
theorem Nd.far {w : World} {m nd g n cap c off : Nat} {r kv : Value} {ps : List Pr} (h : Mp w m r c) (hn : Nd w nd (some ⟨g, off, none⟩) n cap ps kv) (hp : 0 < n) : g ≠ m := by
  rintro rfl
  obtain ⟨g', off', e, _, hc⟩ := hn.rd.2 hp
  cases e
  have hl : 0 < ps.length := by rw [hn.rd.1]; exact hp
  have h0 := hc 0 _ (List.getElem?_eq_getElem hl)
  have e : ∀ j, w.cell? ⟨g, j, none⟩ = [r, .int .i64 (c : Int), .bool true][j]? := fun j => by rw [cell_of_row w g j _ 48 (0, 0) h, List.getElem?_toArray]
  rw [Nat.zero_mul, Nat.add_zero, e, e] at h0
  match off, h0 with
  | 0, h0 => simp at h0
  | 1, h0 => simp at h0
  | 2, h0 => simp at h0
  | k + 3, h0 => simp at h0
theorem Nd.apart {w : World} {m nd n cap c : Nat} {a : Option Addr} {r kv : Value} {ps : List Pr} (h : Mp w m r c) (hn : Nd w nd a n cap ps kv) (e : nd = m) : False := by
  subst e
  have := h.symm.trans hn.blk
  simp at this

set_option maxRecDepth 100000 in
theorem mput_nil (w : World) (m : Nat) (x : Pr) (h : Mp w m (.pointer none) 0) :
    Calls Try.prog 19 #[.pointer (some ⟨m, 0, none⟩), .string x.1, .string x.2] w fun e w' => ∃ nd g, e = .returned (.bool false) ∧ Hid (Mp w' m (.pointer (some ⟨nd, 0, none⟩)) 1) ∧ Hid (Nd w' nd (some ⟨g, 0, none⟩) 1 1 [x] (.slice none 0 0)) ∧ Hid (w.grownBy w' (some m) ∧ w.heap.size ≤ nd) := by
  obtain ⟨k, v⟩ := x
  have HM : Hid (Mp w m (.pointer none) 0) := h
  have c0 := h.cell (i := 0) rfl
  have c1 := h.cell (i := 1) rfl
  have c2 := h.cell (i := 2) rfl
  have f0 := h.free 0
  have f1 := h.free 1
  clear h
  go_enter Try.func19, Try.ntmps19
  go_wp2_with (first | (go_at_call 22; refine (made_is w m true c2).mono ?_; rintro e w2 ⟨rfl, rfl⟩) | fail)
  refine (get_nil w k).mono ?_
  rintro e w1 ⟨rfl, hB1⟩
  have HB1 : Hid (Below w.heap.size w w1) := hB1
  have HM1 : Hid (Mp w1 m (.pointer none) 0) := HM.out.keep hB1 (Nat.le_refl _)
  have HL : Hid (m < w.heap.size) := HM.out.lt
  have d0 := HM1.out.cell (i := 0) rfl
  have d1 := HM1.out.cell (i := 1) rfl
  have g1 := HM1.out.free 1
  clear hB1 c0 c1 c2 f0 f1
  go_wp2_with fail
  have HG1 : Hid (w.grownBy (w1.setCell ⟨m, 1, none⟩ (.int .i64 1)) (some m)) := grown_tr (below_grown HB1.out _) (grown_setCell _ _ _ _)
  have HM2 : Hid (Mp (w1.setCell ⟨m, 1, none⟩ (.int .i64 1)) m (.pointer none) 1) := HM1.out.set 1 (.int .i64 1)
  refine (put_nil _ (k, v)).mono ?_
  rintro e w3 ⟨nd, g, rfl, HN3, HB3⟩
  have HM3 : Hid (Mp w3 m (.pointer none) 1) := HM2.out.keep HB3.out.1 (Nat.le_refl _)
  go_wp2_with fail
  refine (whole_is w3 nd).mono ?_
  rintro e w4 ⟨rfl, HB4⟩
  have HM4 : Hid (Mp w4 m (.pointer none) 1) := HM3.out.keep HB4.out (Nat.le_refl _)
  have HN4 : Hid (Nd w4 nd (some ⟨g, 0, none⟩) 1 1 [(k, v)] (.slice none 0 0)) := HN3.out.below HB4.out (Nat.le_refl _)
  have e0 := HM4.out.cell (i := 0) rfl
  have g0 := HM4.out.free 0
  clear d0 d1 g1
  go_wp2
  go_ret
  have hnd : w.heap.size ≤ nd := Nat.le_trans HG1.out.size HB3.out.2
  have hml := HL.out
  refine ⟨nd, g, rfl, HM4.out.set 0 _, ⟨HN4.out.blk.kept (grown_setCell _ _ _ _) (by simp; omega), HN4.out.rd.grown (grown_setCell _ _ _ _) ?_⟩, grown_tr (grown_tr HG1.out (below_grown (HB3.out.1.trans (HB4.out.mono HB3.out.1.size)) _)) (grown_setCell _ _ _ _), hnd⟩
  exact Nd.far HM4.out HN4.out (by omega)

/-- a map of one leaf, behind a Put -/
def Putd (w w' : World) (m c : Nat) (ps : List Pr) : Prop := ∃ nd' g' cap' N, Mp w' m (.pointer (some ⟨nd', 0, none⟩)) c ∧ Nd w' nd' (some ⟨g', 0, none⟩) N cap' ps (.slice none 0 0) ∧ w.grownBy w' (some m) ∧ w.heap.size ≤ nd' ∧ N ≤ cap'
set_option maxRecDepth 100000 in
theorem mput_leaf (w : World) (m nd g off n cap c : Nat) (ps : List Pr) (x : Pr) (h : Mp w m (.pointer (some ⟨nd, 0, none⟩)) c) (hn : Nd w nd (some ⟨g, off, none⟩) n cap ps (.slice none 0 0)) (hm : Mono ps x.1) (hn6 : 0 < n ∧ n ≤ 6) (hnc : n ≤ cap) (hc : c ≤ 1000) (b : Bool) (k0 : Nat) (ha : AtP ps x.1 k0) (hi : isP ps x.1 k0 = b) :
    Calls Try.prog 19 #[.pointer (some ⟨m, 0, none⟩), .string x.1, .string x.2] w fun e w' => e = .returned (.bool b) ∧ Hid (Putd w w' m (if b = true then c else c + 1) (putP ps x k0)) := by
  obtain ⟨k, v⟩ := x
  have HM : Hid (Mp w m (.pointer (some ⟨nd, 0, none⟩)) c) := h
  have HN : Hid (Nd w nd (some ⟨g, off, none⟩) n cap ps (.slice none 0 0)) := hn
  have HO : Hid (Mono ps k) := hm
  have HS : Hid ((0 < n ∧ n ≤ 6) ∧ n ≤ cap ∧ c ≤ 1000) := ⟨hn6, hnc, hc⟩
  have HA : Hid (AtP ps k k0) := ha
  have HI : Hid (isP ps k k0 = b) := hi
  have c0 := h.cell (i := 0) rfl
  have c2 := h.cell (i := 2) rfl
  have HL : Hid (m < w.heap.size) := h.lt
  clear h hn hm hn6 hnc hc ha hi
  go_enter Try.func19, Try.ntmps19
  go_wp2_with (first | (go_at_call 22; refine (made_is w m true c2).mono ?_; rintro e w2 ⟨rfl, rfl⟩) | fail)
  refine (get_leaf w nd _ n cap ps k HN.out HO.out (by have := HS.out; omega)).mono ?_
  rintro e w1 ⟨k1, rfl, HA1, HB1⟩
  have hk1 : k1 = k0 := HA1.out.uniq HA.out
  subst hk1
  rw [HI.out]
  have HM1 : Hid (Mp w1 m (.pointer (some ⟨nd, 0, none⟩)) c) := HM.out.keep HB1.out (Nat.le_refl _)
  have HN1 : Hid (Nd w1 nd (some ⟨g, off, none⟩) n cap ps (.slice none 0 0)) := HN.out.below HB1.out (Nat.le_refl _)
  have d0 := HM1.out.cell (i := 0) rfl
  have d1 := HM1.out.cell (i := 1) rfl
  have g1 := HM1.out.free 1
  obtain ⟨vv, hvv⟩ : ∃ vv, valP ps k k1 = vv := ⟨_, rfl⟩
  rw [hvv]
  have HF : Hid (g ≠ m ∧ nd ≠ m) := ⟨Nd.far HM.out HN.out HS.out.1.1, fun e => Nd.apart HM.out HN.out e⟩
  clear c0 c2 hvv
  have fin : ∀ (W : World) (c' : Nat), Mp W m (.pointer (some ⟨nd, 0, none⟩)) c' → Nd W nd (some ⟨g, off, none⟩) n cap ps (.slice none 0 0) → w.grownBy W (some m) → Calls Try.prog 33 #[.pointer (some ⟨nd, 0, none⟩), .agg #[.string k, .string v]] W fun e w3 => ∃ nd' g' cap' N, e = .returned (one nd') ∧ Hid (Mp w3 m (.pointer (some ⟨nd, 0, none⟩)) c') ∧ Hid (Nd w3 nd' (some ⟨g', 0, none⟩) N cap' (putP ps (k, v) k1) (.slice none 0 0) ∧ N ≤ cap' ∧ 0 < N) ∧ Hid (w.grownBy w3 (some m) ∧ w.heap.size ≤ nd') := by
    intro W c' h1 h2 h3
    refine (put_leaf W nd g off n cap ps (k, v) h2 HO.out HS.out.1.2 HS.out.2.1).mono ?_
    rintro e w3 ⟨nd', g', cap', k2, rfl, h4, h5, h6⟩
    have hk2 : k2 = k1 := h5.out.uniq HA.out
    subst hk2
    exact ⟨nd', g', cap', _, rfl, h1.keep h6.out.1 (Nat.le_refl _), ⟨h4.out, h6.out.2.2, by rw [putP]; simp; omega⟩, grown_tr h3 (below_grown h6.out.1 _), Nat.le_trans h3.size h6.out.2.1⟩
  have FIN : Hid (∀ (W : World) (c' : Nat), Mp W m (.pointer (some ⟨nd, 0, none⟩)) c' → Nd W nd (some ⟨g, off, none⟩) n cap ps (.slice none 0 0) → w.grownBy W (some m) → Calls Try.prog 33 #[.pointer (some ⟨nd, 0, none⟩), .agg #[.string k, .string v]] W fun e w3 => ∃ nd' g' cap' N, e = .returned (one nd') ∧ Hid (Mp w3 m (.pointer (some ⟨nd, 0, none⟩)) c') ∧ Hid (Nd w3 nd' (some ⟨g', 0, none⟩) N cap' (putP ps (k, v) k1) (.slice none 0 0) ∧ N ≤ cap' ∧ 0 < N) ∧ Hid (w.grownBy w3 (some m) ∧ w.heap.size ≤ nd')) := fin
  clear fin
  have q1 : (c : Int) ≤ 1000 := by have := HS.out; omega
  have END : Hid (∀ (w3 w4 : World) (nd' g' cap' N c' : Nat), Mp w3 m (.pointer (some ⟨nd, 0, none⟩)) c' → Nd w3 nd' (some ⟨g', 0, none⟩) N cap' (putP ps (k, v) k1) (.slice none 0 0) → 0 < N → w.grownBy w3 (some m) → w.heap.size ≤ nd' → Below w3.heap.size w3 w4 →
      Mp (w4.setCell ⟨m, 0, none⟩ (.pointer (some ⟨nd', 0, none⟩))) m (.pointer (some ⟨nd', 0, none⟩)) c' ∧ Nd (w4.setCell ⟨m, 0, none⟩ (.pointer (some ⟨nd', 0, none⟩))) nd' (some ⟨g', 0, none⟩) N cap' (putP ps (k, v) k1) (.slice none 0 0) ∧ w.grownBy (w4.setCell ⟨m, 0, none⟩ (.pointer (some ⟨nd', 0, none⟩))) (some m)) := by
    intro w3 w4 nd' g' cap' N c' h1 h2 hp h3 h4 h5
    have h6 := h1.keep h5 (Nat.le_refl _)
    have h7 := h2.below h5 (Nat.le_refl _)
    have hml := HL.out
    exact ⟨h6.set 0 _, ⟨h7.blk.kept (grown_setCell _ _ _ _) (by simp; omega), h7.rd.grown (grown_setCell _ _ _ _) (Nd.far h6 h7 hp)⟩, grown_tr (grown_tr h3 (below_grown h5 _)) (grown_setCell _ _ _ _)⟩
  cases b with
  | true =>
    go_wp2_with fail
    refine (FIN.out w1 c HM1.out HN1.out (below_grown HB1.out _)).mono ?_
    rintro e w3 ⟨nd', g', cap', N, rfl, HM3, HN3, HG3⟩
    go_wp2_with fail
    refine (whole_is w3 nd').mono ?_
    rintro e w4 ⟨rfl, HB4⟩
    have HM4 : Hid (Mp w4 m (.pointer (some ⟨nd, 0, none⟩)) c) := HM3.out.keep HB4.out (Nat.le_refl _)
    have e0 := HM4.out.cell (i := 0) rfl
    have g0 := HM4.out.free 0
    clear d0 d1 g1
    go_wp2
    go_ret
    have hE := END.out w3 w4 nd' g' cap' N c HM3.out HN3.out.1 HN3.out.2.2 HG3.out.1 HG3.out.2 HB4.out
    exact ⟨rfl, nd', g', cap', N, by simpa using hE.1, hE.2.1, hE.2.2, HG3.out.2, HN3.out.2.1⟩
  | false =>
    go_wp2_with fail
    have HM2 : Hid (Mp (w1.setCell ⟨m, 1, none⟩ (.int .i64 ((c : Int) + 1))) m (.pointer (some ⟨nd, 0, none⟩)) (c + 1)) := HM1.out.set 1 _
    refine (FIN.out _ (c + 1) HM2.out ⟨HN1.out.blk.kept (grown_setCell _ _ _ _) (by simpa using HF.out.2), HN1.out.rd.grown (grown_setCell _ _ _ _) HF.out.1⟩ (grown_tr (below_grown HB1.out _) (grown_setCell _ _ _ _))).mono ?_
    rintro e w3 ⟨nd', g', cap', N, rfl, HM3, HN3, HG3⟩
    go_wp2_with fail
    refine (whole_is w3 nd').mono ?_
    rintro e w4 ⟨rfl, HB4⟩
    have HM4 : Hid (Mp w4 m (.pointer (some ⟨nd, 0, none⟩)) (c + 1)) := HM3.out.keep HB4.out (Nat.le_refl _)
    have e0 := HM4.out.cell (i := 0) rfl
    have g0 := HM4.out.free 0
    clear d0 d1 g1
    go_wp2
    go_ret
    have hE := END.out w3 w4 nd' g' cap' N (c + 1) HM3.out HN3.out.1 HN3.out.2.2 HG3.out.1 HG3.out.2 HB4.out
    exact ⟨rfl, nd', g', cap', N, by simpa using hE.1, hE.2.1, hE.2.2, HG3.out.2, HN3.out.2.1⟩
end Go.Proofs.Ytnagknlfboadkaa.Oct

/- A statement whose order is open, inside a fence, where what is read is told by a condition S on the world that each of its operations keeps: an operation that only reads what S tells may be taken first. Of no program. -/
namespace Go.Proofs.Ytnagknlfboadkaa.Oct
open Go

section
variable {F : Fence} {n : Nat} {P : Program} {ops : Array Oper} {Q : Exit → Act → World → Prop} {md : Region.Mode} {S : World → Prop}

/-- it yields v in each world that S tells, and calls nobody -/
structure Reads (P : Program) (ops : Array Oper) (S : World → Prop) (o : Oper) (v : Value) (a : Act) : Prop where
  yields : YieldsIf P ops S o v a
  quiet : ∀ w, o.about P w a.eval = none

theorem Reads.now {i : Nat} {o : Oper} {v : Value} {a : Act} {w : World} {K : Act → World → Prop} (h : Reads P ops S o v a) (hro : F.round = none) (hi : ops[i]? = some o) (hS : S w) (hk : K (a.put o.dst v) w) : wpOpIn F n P ops Q i K a w := by
  have hf : ∀ f, o.about P w a.eval = some f → F.fn f := fun f hf => by rw [h.quiet w] at hf; cases hf
  unfold wpOpIn
  rw [hi]
  dsimp only
  rcases h.yields with ⟨hw, hv⟩ | ⟨hw, rfl⟩
  · rw [if_pos hw]
    refine ⟨hf, ?_⟩
    rw [hro, Oper.semAt_none, hv w hS]
    exact hk
  · rw [if_neg (by rw [hw]; exact Bool.false_ne_true)]
    exact ⟨hf, hk⟩

/-- another operation of the statement, ahead of it or behind it: all the same -/
theorem Reads.past {j : Nat} {oi oj : Oper} {v : Value} {a : Act} {w : World} {K : Act → World → Prop} (hy : Reads P ops S oi v a) (hro : F.round = none) (hj : ops[j]? = some oj) (hap : oi.apart ops oj = true)
    (hsi : ∀ cs b, oi.op ≠ .select cs b) (hsj : ∀ cs b, oj.op ≠ .select cs b) (hQ : ∀ c a w, Q (.panic c) (a.put oi.dst v) w → Q (.panic c) a w)
    (h : wpOpIn F n P ops Q j K (a.put oi.dst v) w) : wpOpIn F n P ops Q j (fun a' w' => Reads P ops S oi v a' ∧ K (a'.put oi.dst v) w') a w := by
  obtain ⟨h1, h2, h3⟩ := Oper.apart_spec hap
  have stays : ∀ (b : Act), Reads P ops S oi v b → ∀ u, Reads P ops S oi v (b.put oj.dst u) := fun b hb u =>
    ⟨hb.yields.of_same (execOp_put oi hsi b oj.dst u h3) (wanted_put oi b oj.dst u h3), fun w => by rw [about_put oi w b oj.dst u h3]; exact hb.quiet w⟩
  have both : ∀ (b : Act) (W : World) (u : Value), Reads P ops S oi v b → K ((b.put oi.dst v).put oj.dst u) W → Reads P ops S oi v (b.put oj.dst u) ∧ K ((b.put oj.dst u).put oi.dst v) W := fun b W u hb hk =>
    ⟨stays b hb u, by rw [← Act.put_comm b v u h2]; exact hk⟩
  unfold wpOpIn at h ⊢
  rw [hj] at h ⊢
  dsimp only at h ⊢
  rw [wanted_put oj a oi.dst v h1, about_put oj w a oi.dst v h1] at h
  by_cases hw : Region.wanted oj (yielded ops a.tmps) = true
  · rw [if_pos hw] at h ⊢
    unfold Oper.wpIn at h ⊢
    rw [about_put oj w a oi.dst v h1, hro, Oper.semAt_none, execOp_put oj hsj a oi.dst v h1] at h
    refine ⟨h.1, ?_⟩
    have h' := h.2
    rw [hro, Oper.semAt_none]
    revert h'
    generalize (execOp a.eval oj).run P w = r
    intro h'
    cases r with
    | halt x w' =>
      cases x with
      | panic u => exact hQ _ _ _ h'
      | _ => exact h'
    | ok x w' =>
      cases x with
      | value u => exact both a w' u hy h'
      | skip => exact both a w' undef hy h'
      | defer d =>
        have hd : Reads P ops S oi v { a with defers := d :: a.defers } := ⟨hy.yields.of_same rfl rfl, hy.quiet⟩
        refine both _ w' undef hd ?_
        rw [← Act.put_defers]
        exact h'
      | enter f args =>
        refine ⟨h'.1, h'.2.mono fun e w2 he => ?_⟩
        cases e with
        | returned u => exact both a w2 u hy he
        | panicked c => exact hQ _ _ _ he
        | outgrown => exact he
      | row nm args => exact ⟨h'.1, RowsIn.mono h'.2 fun u w2 he => both a w2 u hy he⟩
      | round l f tmps assign body =>
        refine ⟨h'.1, h'.2.mono fun e w2 he => ?_⟩
        cases e with
        | returned u => exact both a w2 u hy he
        | panicked c => exact hQ _ _ _ he
        | outgrown => exact he
      | _ => exact h'
  · rw [if_neg hw] at h ⊢
    exact ⟨h.1, both a w undef hy h.2⟩

/-- whatever order, S holding all along -/
def anyS (F : Fence) (n : Nat) (P : Program) (md : Region.Mode) (ops : Array Oper) (Q : Exit → Act → World → Prop) (S : World → Prop) : Nat → Array Bool → Act → World → Prop
  | 0, listed, a, w => Region.ready md ops listed = [] ∧ Q .normal a w
  | fuel + 1, listed, a, w => (Region.ready md ops listed = [] → Q .normal a w) ∧ ∀ i ∈ Region.ready md ops listed, wpOpIn F n P ops Q i (fun a' w' => S w' ∧ anyS F n P md ops Q S fuel (listed.setIfInBounds i true) a' w') a w

theorem anyS_any : ∀ (fuel : Nat) (listed : Array Bool) (a : Act) (w : World), anyS F n P md ops Q S fuel listed a w → wpAnyIn F n P md ops Q fuel listed a w
  | 0, _, _, _, h => h
  | fuel + 1, _, _, _, h => ⟨h.1, fun i hi => wpOpIn_mono (fun a' w' k => anyS_any fuel _ a' w' k.2) (h.2 i hi)⟩

theorem anyS_first {i : Nat} {oi : Oper} {v : Value} (hro : F.round = none) (hi : ops[i]? = some oi) (hsel : ∀ (j : Nat) (o : Oper) cs b, ops[j]? = some o → o.op ≠ .select cs b)
    (hQ : ∀ c a w, Q (.panic c) (a.put oi.dst v) w → Q (.panic c) a w) : ∀ (fuel : Nat) (listed : Array Bool) (a : Act) (w : World),
      (∀ j oj, ops[j]? = some oj → j ≠ i → listed.getD j true = false → (∀ e ∈ oj.after, Region.binds md e = true → e.on ≠ i) → oi.apart ops oj = true) →
      i ∈ Region.ready md ops listed → Reads P ops S oi v a → S w → anyS F n P md ops Q S fuel (listed.setIfInBounds i true) (a.put oi.dst v) w → anyS F n P md ops Q S (fuel + 1) listed a w
  | 0, listed, a, w, _, hr, hy, hS, H => by
    refine ⟨fun h => (by rw [h] at hr; cases hr), fun j hj => ?_⟩
    by_cases e : j = i
    · rw [e]; exact hy.now hro hi hS ⟨hS, H⟩
    · have k := ready_mono hj e
      rw [H.1] at k
      cases k
  | fuel + 1, listed, a, w, hfree, hr, hy, hS, H => by
    refine ⟨fun h => (by rw [h] at hr; cases hr), fun j hj => ?_⟩
    by_cases e : j = i
    · rw [e]; exact hy.now hro hi hS ⟨hS, H⟩
    · obtain ⟨hun, oj, hoj, hall⟩ := mem_ready.1 hj
      have hnot : ∀ x ∈ oj.after, Region.binds md x = true → x.on ≠ i := by
        intro x hx hb hxi
        have k1 := hall x hx hb
        have k0 := (mem_ready.1 hr).1
        rw [hxi] at k1
        by_cases hlt : i < listed.size
        · simp [hlt] at k0 k1
          rw [k0] at k1; cases k1
        · simp [Array.getElem?_eq_none (Nat.le_of_not_lt hlt)] at k1
      refine wpOpIn_mono ?_ (hy.past hro hoj (hfree j oj hoj e hun hnot) (fun cs b => hsel i oi cs b hi) (fun cs b => hsel j oj cs b hoj) hQ (H.2 j (ready_mono hj e)))
      rintro a' w' ⟨r1, r2, r3⟩
      refine ⟨r2, anyS_first hro hi hsel hQ fuel _ a' w' (fun k ok hk hki hu hno => hfree k ok hk hki ?_ hno) (ready_mono hr (Ne.symm e)) r1 r2 ?_⟩
      · by_cases hjk : j = k
        · rw [← hjk]; exact hun
        · rwa [getD_set_ne true hjk] at hu
      · rw [Array.setIfInBounds_comm _ _ e]; exact r3

theorem anyS_take {i : Nat} {oi : Oper} {v : Value} {fuel : Nat} {listed : Array Bool} {a : Act} {w : World} (hro : F.round = none) (hi : ops[i]? = some oi) (hs : Region.noSelect ops = true) (hf : Region.free md ops listed i = true) (hr : (Region.ready md ops listed).contains i = true)
    (hQ : ∀ c a w, Q (.panic c) (a.put oi.dst v) w → Q (.panic c) a w) (hy : Reads P ops S oi v a) (hS : S w) (h : anyS F n P md ops Q S fuel (listed.setIfInBounds i true) (a.put oi.dst v) w) : anyS F n P md ops Q S (fuel + 1) listed a w :=
  anyS_first hro hi (Region.noSelect_spec hs) hQ fuel listed a w (Region.free_spec hi hf) (by simpa using hr) hy hS h
theorem anyS_one {i : Nat} {fuel : Nat} {listed : Array Bool} {a : Act} {w : World} (hr : Region.ready md ops listed = [i]) (h : wpOpIn F n P ops Q i (fun a' w' => S w' ∧ anyS F n P md ops Q S fuel (listed.setIfInBounds i true) a' w') a w) : anyS F n P md ops Q S (fuel + 1) listed a w :=
  ⟨fun h0 => (by rw [hr] at h0; cases h0), fun j hj => by rw [hr] at hj; rw [List.mem_singleton.1 hj]; exact h⟩
theorem anyS_done {listed : Array Bool} {a : Act} {w : World} (hr : Region.ready md ops listed = []) (h : Q .normal a w) (fuel : Nat) : anyS F n P md ops Q S fuel listed a w := by
  cases fuel with
  | zero => exact ⟨hr, h⟩
  | succ k => exact ⟨fun _ => h, by rw [hr]; simp⟩
theorem region_S {id : Nat} {a : Act} {w : World} (hm : P.follows .mixedOrders = true) (h : anyS F n P .any ops Q S ops.size (Array.replicate ops.size false) a w.drew) : (Code.region id ops true).wpIn F n P Q a w :=
  wpIn_region_any hm (anyS_any _ _ _ _ h)
end
end Go.Proofs.Ytnagknlfboadkaa.Oct
