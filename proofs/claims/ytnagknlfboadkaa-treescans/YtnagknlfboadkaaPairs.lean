/-
  Layer 7 (tree): a slice of pairs that is read; 'sort.Search' of a test that rises; 'place' of a node.
-/
import Derived.Test.YtnagknlfboadkaaRows
import Derived.Test.YtnagknlfboadkaaBlk
import Derived.WalkKit
import Derived.Lib.Strings
import Derived.BigQuiet
import Derived.Laws.Cover1
namespace Go.Proofs.Ytnagknlfboadkaa.Oct
open Go.RowKit

abbrev Pr := ByteArray × ByteArray
/-- a pair's cells -/
def pc (x : Pr) : List Value := [.string x.1, .string x.2]
/-- a slice of pairs that can be read -/
def RdP (w : World) (a : Option Addr) (n : Nat) (ps : List Pr) : Prop :=
  ps.length = n ∧ (0 < n → ∃ g off, a = some ⟨g, off, none⟩ ∧ RowT w 40 g ∧ ∀ k x, ps[k]? = some x → w.cell? ⟨g, off + k * 2, none⟩ = some (.string x.1) ∧ w.cell? ⟨g, off + k * 2 + 1, none⟩ = some (.string x.2))
theorem RdP.below {w w' : World} {B : Nat} {a : Option Addr} {n : Nat} {ps : List Pr} (h : RdP w a n ps) (hb : Below B w w') (hB : w.heap.size ≤ B) : RdP w' a n ps := by
  refine ⟨h.1, fun hp => ?_⟩
  obtain ⟨g, off, e, h1, h2⟩ := h.2 hp
  have hgl := h1.lt
  refine ⟨g, off, e, h1.same (hb.block g (by omega)), fun k x hk => ?_⟩
  have := h2 k x hk
  exact ⟨(hb.cell (p := ⟨g, _, none⟩) (by show g < B; omega)).trans this.1, (hb.cell (p := ⟨g, _, none⟩) (by show g < B; omega)).trans this.2⟩
theorem RdP.kept {w w' : World} {B : Nat} {a : Option Addr} {n : Nat} {ps : List Pr} (h : RdP w a n ps) (hb : Below B w w') (hg : ∀ ad, a = some ad → ad.block < B) : RdP w' a n ps := by
  refine ⟨h.1, fun hp => ?_⟩
  obtain ⟨g, off, e, h1, h2⟩ := h.2 hp
  have hgB : g < B := hg _ e
  refine ⟨g, off, e, h1.same (hb.block g hgB), fun k x hk => ?_⟩
  have := h2 k x hk
  exact ⟨(hb.cell (p := ⟨g, _, none⟩) hgB).trans this.1, (hb.cell (p := ⟨g, _, none⟩) hgB).trans this.2⟩

/-- not less, as texts are compared -/
def geS (a b : ByteArray) : Bool := !(Op.bytesLess a.toList b.toList)

set_option maxRecDepth 100000 in
theorem place1_is (w : World) (b bk g off : Nat) (k : Nat) (n cap : Nat) (kv : Value) (key x : ByteArray) (hk : k < n)
    (h1 : w.cell? ⟨b, 0, none⟩ = some kv) (nd : Nat) (hkv : kv = .pointer (some ⟨nd, 0, none⟩)) (h2 : w.cell? ⟨bk, 0, none⟩ = some (.string key))
    (h3 : w.cell? ⟨nd, 0, none⟩ = some (.slice (some ⟨g, off, none⟩) n cap)) (h4 : w.cell? ⟨g, off + k * 2, none⟩ = some (.string x)) :
    Calls Try.prog 47 #[.int .i64 (k : Int), .pointer (some ⟨b, 0, none⟩), .pointer (some ⟨bk, 0, none⟩)] w fun e w' => e = .returned (.bool (geS x key)) ∧ Below w.heap.size w w' := by
  subst hkv
  have q1 : (k : Int) < (n : Int) := by omega
  go_enter Try.func47, Try.ntmps47
  go_wp2
  go_region
  go_wp2
  go_ret
  exact ⟨rfl, (Below.refl _ w).drew⟩
#print axioms place1_is

set_option maxRecDepth 100000 in
theorem search_is (w : World) (n : Nat) (p : Nat → Bool) (hm : ∀ i j, i ≤ j → j < n → p i = true → p j = true) (hn : n ≤ 140737488355328) (b bk : Nat)
    (hf : ∀ i, i < n → ∀ W, Below w.heap.size w W → Calls Try.prog 47 #[.int .i64 (i : Int), .pointer (some ⟨b, 0, none⟩), .pointer (some ⟨bk, 0, none⟩)] W fun e W' => e = .returned (.bool (p i)) ∧ Below W.heap.size W W') :
    Calls Try.prog 46 #[.int .i64 (n : Int), .func (.func 47) #[] #[.pointer (some ⟨b, 0, none⟩), .pointer (some ⟨bk, 0, none⟩)]] w fun e w' => ∃ k : Nat, e = .returned (.int .i64 (k : Int)) ∧ Hid (k ≤ n ∧ (∀ i, i < k → p i = false) ∧ (∀ i, k ≤ i → i < n → p i = true)) ∧ Hid (Below w.heap.size w w') := by
  have HM : Hid (∀ i j, i ≤ j → j < n → p i = true → p j = true) := hm
  have HF : Hid (∀ i, i < n → ∀ W, Below w.heap.size w W → Calls Try.prog 47 #[.int .i64 (i : Int), .pointer (some ⟨b, 0, none⟩), .pointer (some ⟨bk, 0, none⟩)] W fun e W' => e = .returned (.bool (p i)) ∧ Below W.heap.size W W') := hf
  have HN : Hid (n ≤ 140737488355328) := hn
  clear hm hf hn
  go_enter Try.func46, Try.ntmps46
  go_wp2
  go_loopw [5, 6] (fun u v wr => ∃ i j : Nat, u = .int .i64 (i : Int) ∧ v = .int .i64 (j : Int) ∧ Hid (i ≤ j ∧ j ≤ n) ∧ Hid (∀ k, k < i → p k = false) ∧ Hid (∀ k, j ≤ k → k < n → p k = true) ∧ Hid (Below w.heap.size w wr)) (fun u v _ => (intOf v - intOf u).toNat)
  case atStart => exact ⟨0, n, rfl, rfl, ⟨Nat.zero_le _, Nat.le_refl _⟩, fun k hk => by omega, fun k h1 h2 => by omega, Below.refl _ _⟩
  case round =>
    obtain ⟨i, j, rfl, rfl, HIJ, HA, HB, HW⟩ := hrel
    by_cases hlt : i < j
    · have q1 : (i : Int) < (j : Int) := by omega
      obtain ⟨h, hh⟩ : ∃ h, (i + j) / 2 = h := ⟨_, rfl⟩
      have HH : Hid (i ≤ h ∧ h < j) := by show _ ∧ _; omega
      have hj : j ≤ 140737488355328 := Nat.le_trans HIJ.out.2 HN.out
      have q2 : IntKind.i64.wrap ((i : Int) + (j : Int)) = ((i + j : Nat) : Int) := by rw [IntKind.wrap_i64]; omega
      have q3 : IntKind.u64.wrap ((i + j : Nat) : Int) = ((i + j : Nat) : Int) := by rw [IntKind.wrap_u64]; omega
      have q4 : ((i : Int) + (j : Int)) / 2 = (h : Int) := by omega
      have q5 : (h : Int) ≤ 140737488355328 := by have := HH.out; omega
      clear hlt
      go_wp2_with fail
      refine (HF.out h (Nat.lt_of_lt_of_le HH.out.2 HIJ.out.2) wr HW.out).mono ?_
      rintro e w1 ⟨rfl, hB1⟩
      have HB1 : Hid (Below w.heap.size w w1) := HW.out.trans (hB1.mono HW.out.size)
      clear hB1
      cases hp : p h with
      | true =>
        have HP : Hid (p h = true) := hp
        clear hp
        go_wp2
        go_roundw
        case rel => exact ⟨i, h, rfl, rfl, ⟨HH.out.1, by have := HH.out; have := HIJ.out; omega⟩, HA, fun k h1 h2 => HM.out h k h1 h2 HP.out, HB1⟩
        case measure => have := HH.out; simp [intOf]; omega
      | false =>
        have HP : Hid (p h = false) := hp
        clear hp
        go_wp2
        go_roundw
        case rel =>
          refine ⟨h + 1, j, by simp, rfl, ⟨HH.out.2, HIJ.out.2⟩, fun k hk => ?_, HB, HB1⟩
          cases hpk : p k with
          | false => rfl
          | true =>
            have := HM.out k h (by omega) (Nat.lt_of_lt_of_le HH.out.2 HIJ.out.2) hpk
            rw [HP.out] at this; cases this
        case measure => have := HH.out; simp [intOf]; omega
    · have q1 : ¬ (i : Int) < (j : Int) := by omega
      have hij : j = i := by have := HIJ.out; omega
      subst hij
      go_wp2
      go_ret
      exact ⟨j, rfl, ⟨HIJ.out.2, HA.out, HB.out⟩, HW⟩
#print axioms search_is

/-- where a key stands among pairs, or would -/
def AtP (ps : List Pr) (key : ByteArray) (k : Nat) : Prop := k ≤ ps.length ∧ (∀ (i : Nat) (x : Pr), i < k → ps[i]? = some x → geS x.1 key = false) ∧ (∀ (i : Nat) (x : Pr), k ≤ i → ps[i]? = some x → geS x.1 key = true)
/-- whether it stands there -/
def isP (ps : List Pr) (key : ByteArray) (k : Nat) : Bool := match ps[k]? with | some x => x.1.toList == key.toList | none => false
/-- what is not less stays so -/
def Mono (ps : List Pr) (key : ByteArray) : Prop := ∀ (i j : Nat) (x y : Pr), i ≤ j → ps[i]? = some x → ps[j]? = some y → geS x.1 key = true → geS y.1 key = true
/-- a node whose pairs can be read -/
structure Nd (w : World) (b : Nat) (a : Option Addr) (n cap : Nat) (ps : List Pr) (kv : Value) : Prop where
  blk : Blk w b 67 [.slice a n cap, kv]
  rd : RdP w a n ps
theorem Nd.below {w w' : World} {B b : Nat} {a : Option Addr} {n cap : Nat} {ps : List Pr} {kv : Value} (h : Nd w b a n cap ps kv) (hb : Below B w w') (hB : w.heap.size ≤ B) : Nd w' b a n cap ps kv :=
  ⟨h.blk.below hb (Nat.lt_of_lt_of_le h.blk.lt hB), h.rd.below hb hB⟩

theorem below_drewN {B : Nat} {w w1 : World} (h : Below B w w1) (n : Nat) : Below B w (w1.drewN n) := ⟨h.os, h.tape, h.output, h.size, h.block⟩
def tst (ps : List Pr) (key : ByteArray) (i : Nat) : Bool := match ps[i]? with | some x => geS x.1 key | none => true
theorem search_at (W : World) (b bk nd : Nat) (a : Option Addr) (n cap : Nat) (ps : List Pr) (kv : Value) (key : ByteArray) (h : Nd W nd a n cap ps kv) (hm : Mono ps key) (hn : n ≤ 140737488355328)
    (hb : W.cell? ⟨b, 0, none⟩ = some (.pointer (some ⟨nd, 0, none⟩))) (hk : W.cell? ⟨bk, 0, none⟩ = some (.string key)) :
    Calls Try.prog 46 #[.int .i64 (n : Int), .func (.func 47) #[] #[.pointer (some ⟨b, 0, none⟩), .pointer (some ⟨bk, 0, none⟩)]] W fun e w' => ∃ k : Nat, e = .returned (.int .i64 (k : Int)) ∧ Hid (AtP ps key k) ∧ Hid (Below W.heap.size W w') := by
  have hl := h.rd.1
  refine (search_is W n (tst ps key) ?_ hn b bk ?_).mono ?_
  · intro i j hij hj hi
    have h1 : i < ps.length := by omega
    have h2 : j < ps.length := by omega
    simp only [tst, List.getElem?_eq_getElem h1, List.getElem?_eq_getElem h2] at hi ⊢
    exact hm i j _ _ hij (List.getElem?_eq_getElem h1) (List.getElem?_eq_getElem h2) hi
  · intro i hi W1 hB
    obtain ⟨g, off, rfl, hg, hc⟩ := h.rd.2 (by omega)
    have h1 : i < ps.length := by omega
    have hx := hc i _ (List.getElem?_eq_getElem h1)
    have e : tst ps key i = geS ps[i].1 key := by simp only [tst, List.getElem?_eq_getElem h1]
    rw [e]
    have lb := World.block_lt_of_cell? W _ hb
    have lk := World.block_lt_of_cell? W _ hk
    exact place1_is W1 b bk g off i n cap _ key ps[i].1 hi ((hB.cell (p := ⟨b, 0, none⟩) lb).trans hb) nd rfl ((hB.cell (p := ⟨bk, 0, none⟩) lk).trans hk)
      ((h.below hB (Nat.le_refl _)).blk.cell (i := 0) rfl) ((hB.cell (p := ⟨g, _, none⟩) hg.lt).trans hx.1)
  · rintro e w' ⟨k, rfl, hk1, hB⟩
    refine ⟨k, rfl, ⟨by rw [hl]; exact hk1.out.1, fun i x hi hx => ?_, fun i x hi hx => ?_⟩, hB⟩
    · have := hk1.out.2.1 i hi
      simpa only [tst, hx] using this
    · have hlt : i < n := by rw [← hl]; exact (List.getElem?_eq_some_iff.1 hx).1
      have := hk1.out.2.2 i hi hlt
      simpa only [tst, hx] using this
#print axioms search_at

set_option maxRecDepth 100000 in
theorem place_is (w : World) (nd : Nat) (a : Option Addr) (n cap : Nat) (ps : List Pr) (kv : Value) (key : ByteArray) (h : Nd w nd a n cap ps kv) (hm : Mono ps key) (hn : n ≤ 140737488355328) :
    Calls Try.prog 38 #[.pointer (some ⟨nd, 0, none⟩), .string key] w fun e w' => ∃ k : Nat, e = .returned (.tuple #[.int .i64 (k : Int), .bool (isP ps key k)]) ∧ Hid (AtP ps key k) ∧ Hid (Below w.heap.size w w') := by
  have HM : Hid (Mono ps key) := hm
  have HN : Hid (n ≤ 140737488355328) := hn
  have HD : Hid (Nd w nd a n cap ps kv) := h
  have c0 := h.blk.cell (i := 0) rfl
  have hl := h.blk.lt
  have HB2 : Hid (Below w.heap.size w ((w.alloc (Obj.cells #[Value.pointer (some { block := nd, off := 0 })] 46)).alloc (Obj.cells #[Value.string key] 9))) := ((Below.refl _ w).alloc (Nat.le_refl _) _).alloc (by simp) _
  clear hm hn h
  go_enter Try.func38, Try.ntmps38
  go_wp2_with fail
  refine (search_at _ w.heap.size (w.heap.size + 1) nd a n cap ps kv key (HD.out.below HB2.out (Nat.le_refl _)) HM.out HN.out (by go_simp) (by go_simp)).mono ?_
  rintro e w1 ⟨k, rfl, HA, HB1⟩
  have hS : w.heap.size + 2 ≤ w1.heap.size := by have := HB1.out.size; simp at this; omega
  have c1 : w1.cell? ⟨nd, 0, none⟩ = some (.slice a n cap) := (HB1.out.cell (p := ⟨nd, 0, none⟩) (by simp; omega)).trans ((HB2.out.cell (p := ⟨nd, 0, none⟩) hl).trans c0)
  have c2 : w1.cell? ⟨w.heap.size, 0, none⟩ = some (.pointer (some ⟨nd, 0, none⟩)) := (HB1.out.cell (p := ⟨w.heap.size, 0, none⟩) (by simp; omega)).trans (by go_simp)
  have c3 : w1.cell? ⟨w.heap.size + 1, 0, none⟩ = some (.string key) := (HB1.out.cell (p := ⟨w.heap.size + 1, 0, none⟩) (by simp)).trans (by go_simp)
  have HD1 : Hid (Nd w1 nd a n cap ps kv) := (HD.out.below HB2.out (Nat.le_refl _)).below HB1.out (Nat.le_refl _)
  have HW : Hid (Below w.heap.size w w1) := HB2.out.trans (HB1.out.mono (by simp; omega))
  clear HB1 HB2 c0
  by_cases hk : k < n
  · have q1 : (k : Int) < (n : Int) := by omega
    obtain ⟨g, off, rfl, hg, hc⟩ := HD1.out.rd.2 (by omega)
    have hlt : k < ps.length := by rw [HD.out.rd.1]; exact hk
    have hx := (hc k _ (List.getElem?_eq_getElem hlt)).1
    have HI : Hid (isP ps key k = (ps[k].1.toList == key.toList)) := by show _ = _; simp only [isP, List.getElem?_eq_getElem hlt]
    generalize ps[k].1 = x at *
    clear hc hk hlt
    go_wp2
    go_quiet (fail)
    go_wp2
    go_ret2
    exact ⟨k, by rw [HI.out]; rfl, HA, below_drewN HW.out _⟩
  · have q1 : ¬ (k : Int) < (n : Int) := by omega
    have HI : Hid (isP ps key k = false) := by
      show _ = _
      have : ps[k]? = none := by rw [List.getElem?_eq_none_iff, HD.out.rd.1]; omega
      simp only [isP, this]
    go_wp2
    go_quiet (fail)
    go_wp2
    go_ret2
    exact ⟨k, by rw [HI.out]; rfl, HA, below_drewN HW.out _⟩
#print axioms place_is
end Go.Proofs.Ytnagknlfboadkaa.Oct
