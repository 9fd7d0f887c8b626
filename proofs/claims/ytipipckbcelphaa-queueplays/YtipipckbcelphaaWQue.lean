/-
  Layer 21 (queue): a queue in memory; isMade, isTrying, New, Index, Contains, Place.
-/
import Derived.Test.YtipipckbcelphaaWBas
namespace Go.Proofs.Ytipipckbcelphaa.Oct
open Go.RowKit
set_option linter.unusedSimpArgs false

/-- a queue: what waits, what ended, and where it lies -/
structure Qu where
  wv : Value
  ev : Value
  W : List Int
  E : List (Int × Int × Int)
def ivs (l : List Int) : List Value := l.map iv
def qd (x : Int × Int × Int) : List Value := [iv x.1, iv x.2.1, iv x.2.2]
def qdC (l : List (Int × Int × Int)) : List Value := l.flatMap qd
def Qu.bl (M : Qu) (b : Nat) : List Nat := b :: (M.wv.ownBlock.toList ++ M.ev.ownBlock.toList)
/-- a queue stands at block b; T is the try that is at work -/
structure QAt (w : World) (b : Nat) (M : Qu) (T : Value) (K : Nat) : Prop where
  blk : Blk w b 54 [.bool true, M.wv, M.ev, T]
  wrow : Ow w 3 1 M.wv M.W.length (ivs M.W)
  erow : Ow w 38 3 M.ev M.E.length (qdC M.E)
  apart : (M.bl b).Nodup
  nW : M.W.length ≤ 64
  nE : M.W.length + M.E.length ≤ K
  few : K ≤ 3000000000000
def QAfter (w : World) (b : Nat) (M M' : Qu) (w' : World) : Prop := (∀ k ∈ M'.bl b, k ∈ M.bl b ∨ w.heap.size ≤ k) ∧ Keep (fun k => k ∈ M.bl b) w w'
section
variable {w w' : World} {b K : Nat} {M : Qu} {T : Value}
theorem QAt.lt (h : QAt w b M T K) : ∀ k ∈ M.bl b, k < w.heap.size := by
  intro k hk
  simp only [Qu.bl, List.mem_cons, List.mem_append, Option.mem_toList] at hk
  rcases hk with rfl | hk | hk
  · exact h.blk.lt
  · exact h.wrow.lt hk
  · exact h.erow.lt hk
theorem QAt.same (h : QAt w b M T K) (hs : ∀ k ∈ M.bl b, w'.heap[k]? = w.heap[k]?) : QAt w' b M T K :=
  ⟨(hs b (by simp [Qu.bl])).trans h.blk, h.wrow.same (fun g hg => hs g (by simp [Qu.bl, hg])), h.erow.same (fun g hg => hs g (by simp [Qu.bl, hg])), h.apart, h.nW, h.nE, h.few⟩
theorem QAt.below (h : QAt w b M T K) (hb : Below w.heap.size w w') : QAt w' b M T K := h.same fun k hk => hb.block k (h.lt k hk)
theorem QAt.keep {S : Nat → Prop} (h : QAt w b M T K) (hk : Keep S w w') (hS : ∀ k ∈ M.bl b, ¬ S k) : QAt w' b M T K := h.same fun k hm => hk.block k (h.lt k hm) (hS k hm)
theorem QAt.more (h : QAt w b M T K) {K' : Nat} (hK : K ≤ K') (hf : K' ≤ 3000000000000) : QAt w b M T K' := ⟨h.blk, h.wrow, h.erow, h.apart, h.nW, Nat.le_trans h.nE hK, hf⟩
theorem QAfter.refl (w : World) (b : Nat) (M : Qu) : QAfter w b M M w := ⟨fun _ hk => .inl hk, Keep.refl _ w⟩
theorem QAfter.same (hb : Below w.heap.size w w') : QAfter w b M M w' := ⟨fun _ hk => .inl hk, Keep.below hb⟩
theorem QAfter.first {w1 : World} {M' : Qu} (hb : Below w.heap.size w w1) (h : QAfter w1 b M M' w') : QAfter w b M M' w' :=
  ⟨fun k hk => (h.1 k hk).imp id (fun e => Nat.le_trans hb.size e), (Keep.below hb).trans h.2 (fun _ hj _ => hj)⟩
theorem QAfter.then {w1 : World} {M' : Qu} (h : QAfter w b M M' w1) (hb : Below w1.heap.size w1 w') : QAfter w b M M' w' :=
  ⟨h.1, h.2.trans (Keep.below (S := fun k => k ∈ M.bl b) hb) (fun _ hj _ => hj)⟩
theorem QAfter.trans {w1 w2 : World} {M1 M2 : Qu} (h : QAfter w b M M1 w1) (k : QAfter w1 b M1 M2 w2) : QAfter w b M M2 w2 := by
  refine ⟨fun j hj => ?_, h.2.trans k.2 (fun j hj hl => ?_)⟩
  · rcases k.1 j hj with h1 | h1
    · exact h.1 j h1
    · exact .inr (Nat.le_trans h.2.size h1)
  · rcases h.1 j hj with h1 | h1
    · exact h1
    · omega
/-- what lies elsewhere stays -/
theorem QAfter.below {B : Nat} {M' : Qu} (h : QAfter w b M M' w') (hB : B ≤ w.heap.size) (hm : ∀ k ∈ M.bl b, B ≤ k) : Below B w w' ∧ ∀ k ∈ M'.bl b, B ≤ k :=
  ⟨h.2.toBelow hB hm, fun k hk => (h.1 k hk).elim (hm k) (fun e => Nat.le_trans hB e)⟩
theorem QAt.parts (h : QAt w b M T K) : M.wv.ownBlock ≠ some b ∧ M.ev.ownBlock ≠ some b ∧ ∀ g, M.wv.ownBlock = some g → M.ev.ownBlock ≠ some g := by
  have hn := h.apart
  simp only [Qu.bl, List.nodup_cons, List.mem_append, Option.mem_toList, not_or] at hn
  refine ⟨hn.1.1, hn.1.2, fun g h1 h2 => ?_⟩
  rw [h1, h2] at hn
  simp at hn
end
theorem ivs_one (l : List Int) : ∀ u ∈ ivs l, u.oneCell' = true := by
  intro u hu
  obtain ⟨x, _, rfl⟩ := List.mem_map.1 hu
  rfl
theorem qdC_one : ∀ (l : List (Int × Int × Int)), ∀ u ∈ qdC l, u.oneCell' = true := by
  intro l u hu
  obtain ⟨x, _, hx⟩ := List.mem_flatMap.1 hu
  simp only [qd, List.mem_cons, List.not_mem_nil, or_false] at hx
  rcases hx with rfl | rfl | rfl <;> rfl
theorem qdC_len : ∀ (l : List (Int × Int × Int)), (qdC l).length = l.length * 3
  | [] => rfl
  | x :: l => by
    have := qdC_len l
    simp only [qdC, List.flatMap_cons, List.length_append, List.length_cons, qd, List.length_nil] at *
    omega
theorem ivs_at {l : List Int} {i : Nat} {x : Int} (h : l[i]? = some x) : (ivs l)[i]? = some (iv x) := by simp [ivs, h]
/-- where a number stands in a row; -1: nowhere -/
def plc (l : List Int) (x : Int) : Int := match l.findIdx? (· == x) with
  | some k => (k : Int)
  | none => -1
theorem plc_yes {l : List Int} {x : Int} {k : Nat} (h : l[k]? = some x) (hn : ∀ (j : Nat) (y : Int), j < k → l[j]? = some y → y ≠ x) : plc l x = k := by
  have : l.findIdx? (· == x) = some k := by
    rw [List.findIdx?_eq_some_iff_getElem]
    obtain ⟨hk, he⟩ := List.getElem?_eq_some_iff.1 h
    refine ⟨hk, by simp [he], fun j hj => ?_⟩
    have := hn j l[j] hj (List.getElem?_eq_getElem (by omega))
    simpa using this
  unfold plc
  rw [this]
theorem plc_no {l : List Int} {x : Int} (hn : ∀ (j : Nat) (y : Int), l[j]? = some y → y ≠ x) : plc l x = -1 := by
  have : l.findIdx? (· == x) = none := by
    rw [List.findIdx?_eq_none_iff]
    intro y hy
    obtain ⟨j, hj⟩ := List.mem_iff_getElem?.1 hy
    simpa using hn j y hj
  unfold plc
  rw [this]
theorem plc_cases (l : List Int) (x : Int) : (plc l x = -1 ∧ x ∉ l) ∨ ∃ k : Nat, plc l x = k ∧ l[k]? = some x ∧ ∀ (j : Nat) (y : Int), j < k → l[j]? = some y → y ≠ x := by
  by_cases h : x ∈ l
  · right
    have hs : (l.findIdx? (· == x)).isSome = true := by
      rw [List.findIdx?_isSome]
      simpa using h
    obtain ⟨k, hk⟩ := Option.isSome_iff_exists.1 hs
    refine ⟨k, by unfold plc; rw [hk], ?_⟩
    rw [List.findIdx?_eq_some_iff_getElem] at hk
    obtain ⟨h1, h2, h3⟩ := hk
    refine ⟨by rw [List.getElem?_eq_getElem h1]; simpa using h2, fun j y hj hy => ?_⟩
    have h4 := h3 j hj
    obtain ⟨h5, h6⟩ := List.getElem?_eq_some_iff.1 hy
    rw [h6] at h4
    simpa using h4
  · left
    exact ⟨plc_no fun j y hy e => h (by rw [← e]; exact List.mem_of_getElem? hy), h⟩
set_option maxRecDepth 100000 in
theorem isMade_is {w : World} {b : Nat} (h : w.cell? ⟨b, 0, none⟩ = some (.bool true)) : Calls Try.prog 35 #[.pointer (some ⟨b, 0, none⟩)] w fun e w' => e = .returned (.bool true) ∧ w = w' := by
  go_enter Try.func35, Try.ntmps35
  go_wp2
  go_ret
  exact ⟨rfl, rfl⟩
/-- a function value that is none -/
def nf (T : Value) : Bool := match T with
  | .nilFunc => true
  | _ => false
set_option maxRecDepth 100000 in
theorem trying_no {w : World} {b : Nat} (h : w.cell? ⟨b, 3, none⟩ = some .nilFunc) : Calls Try.prog 37 #[.pointer (some ⟨b, 0, none⟩)] w fun e w' => e = .returned (.bool false) ∧ w = w' := by
  have hq : ∀ W : World, (binOp BinOp.neq 34 .nilFunc .nilFunc).run Try.prog W = .ok (.bool false) W := fun W => by kernel_rfl
  go_enter Try.func37, Try.ntmps37
  go_wp2
  go_ret
  exact ⟨rfl, rfl⟩
set_option maxRecDepth 100000 in
theorem trying_yes {w : World} {b : Nat} {f : Fn} {x y : Array Value} (h : w.cell? ⟨b, 3, none⟩ = some (.func f x y)) : Calls Try.prog 37 #[.pointer (some ⟨b, 0, none⟩)] w fun e w' => e = .returned (.bool true) ∧ w = w' := by
  have hq : ∀ W : World, (binOp BinOp.neq 34 (.func f x y) .nilFunc).run Try.prog W = .ok (.bool true) W := fun W => by kernel_rfl
  go_enter Try.func37, Try.ntmps37
  go_wp2
  go_ret
  exact ⟨rfl, rfl⟩
set_option maxRecDepth 100000 in
set_option maxHeartbeats 1000000 in
theorem index_is {w : World} {v : Value} {l : List Int} {n : Nat} (h : Ow w 3 1 v n (ivs l)) (hn : n ≤ 3000000000000) (x : Int) : Calls Try.prog 44 #[v, iv x] w fun e w' => e = .returned (iv (plc l x)) ∧ w = w' := by
  obtain ⟨a, cap, rfl, hnc, _, hlen, hr⟩ := h.read
  have hl : l.length = n := by simpa [ivs] using hlen
  have HR : Hid (l.length = n ∧ (0 < n → ∃ g, a = some ⟨g, 0, none⟩ ∧ w.rangeAt g 0 (ivs l))) := ⟨hl, fun hp => by obtain ⟨g, e1, _, _, e2⟩ := hr hp; exact ⟨g, e1, e2⟩⟩
  have q0 : (n : Int) ≤ 3000000000000 := by omega
  clear h hr hlen hnc hl hn
  go_enter Try.func44, Try.ntmps44
  go_wp2
  go_loopw [8, 5] (fun u _ W => ∃ j : Nat, u = iv j ∧ Hid (j ≤ n ∧ w = W ∧ ∀ (k : Nat) (y : Int), k < j → l[k]? = some y → y ≠ x)) (fun u _ _ => n - (intOf u).toNat)
  case atStart => exact ⟨0, rfl, Nat.zero_le _, rfl, fun k y hk => absurd hk (by omega)⟩
  case round =>
    obtain ⟨j, rfl, HJ⟩ := hrel
    by_cases hj : j = n
    · have q1 : (n : Int) ≤ (j : Int) := by omega
      have HE : Hid (plc l x = -1 ∧ w = wr) := ⟨plc_no fun k y hy => HJ.out.2.2 k y (by have h1 := (List.getElem?_eq_some_iff.1 hy).1; have h2 := HR.out.1; omega) hy, HJ.out.2.1⟩
      clear hj HJ
      go_wp2
      go_ret
      exact ⟨by rw [HE.out.1]; rfl, HE.out.2⟩
    · have HJM : Hid (j < n) := by have := HJ.out.1; show _ < _; omega
      have q1 : (j : Int) < (n : Int) := by have := HJM.out; omega
      have q2 : j < n := HJM.out
      obtain ⟨g, ha, hra⟩ := HR.out.2 (by omega)
      subst ha
      obtain ⟨y, hy⟩ : ∃ y, l[j]? = some y := ⟨_, List.getElem?_eq_getElem (by rw [HR.out.1]; exact q2)⟩
      have hc : wr.cell? ⟨g, j, none⟩ = some (iv y) := by
        rw [← HJ.out.2.1]
        have := hra j _ (ivs_at hy)
        rwa [Nat.zero_add] at this
      have HY : Hid (l[j]? = some y) := hy
      clear hj hra hy
      by_cases he : x = y
      · have hb : (x == y) = true := by simp [he]
        have HE : Hid (plc l x = j ∧ w = wr) := ⟨plc_yes (by rw [he]; exact HY.out) HJ.out.2.2, HJ.out.2.1⟩
        clear he
        go_wp2
        go_ret
        exact ⟨by rw [HE.out.1]; rfl, HE.out.2⟩
      · have hb : (x == y) = false := by simp [he]
        have HE : Hid (j + 1 ≤ n ∧ w = wr ∧ ∀ k y, k < j + 1 → l[k]? = some y → y ≠ x) := ⟨HJM.out, HJ.out.2.1, fun k z hk hz => by
          by_cases e : k = j
          · subst e; rw [HY.out] at hz; cases hz; exact fun e => he e.symm
          · exact HJ.out.2.2 k z (by omega) hz⟩
        clear he
        go_wp2
        go_roundw
        case rel => exact ⟨j + 1, by simp, HE.out⟩
        case measure =>
          have := HJM.out
          simp only [intOf]
          omega
#print axioms index_is
set_option maxRecDepth 100000 in
theorem place_is {w : World} {b K : Nat} {M : Qu} {T : Value} (h : QAt w b M T K) (x : Int) : Calls Try.prog 25 #[.pointer (some ⟨b, 0, none⟩), iv x] w fun e w' => e = .returned (iv (plc M.W x)) ∧ w = w' := by
  have c0 : w.cell? ⟨b, 0, none⟩ = some (.bool true) := h.blk.cell rfl
  have c1 : w.cell? ⟨b, 1, none⟩ = some M.wv := h.blk.cell rfl
  have H1 := isMade_is c0
  have H2 := index_is h.wrow (by have := h.nW; omega) x
  clear h
  go_enter Try.func25, Try.ntmps25
  go_wp2_with fail
  refine H1.mono ?_
  rintro e w' ⟨rfl, rfl⟩
  go_wp2_with fail
  refine H2.mono ?_
  rintro e w' ⟨rfl, rfl⟩
  clear H1 H2
  go_wp2
  go_ret
  exact ⟨rfl, rfl⟩
theorem has_plc (l : List Int) (x : Int) : decide (0 ≤ plc l x) = decide (x ∈ l) := by
  rcases plc_cases l x with ⟨h1, h2⟩ | ⟨k, h1, h2, _⟩
  · rw [h1]; simp [h2]
  · rw [h1]
    have : x ∈ l := List.mem_of_getElem? h2
    simp [this]
set_option maxRecDepth 100000 in
theorem contains_is {w : World} {v : Value} {l : List Int} {n : Nat} (h : Ow w 3 1 v n (ivs l)) (hn : n ≤ 3000000000000) (x : Int) : Calls Try.prog 36 #[v, iv x] w fun e w' => e = .returned (.bool (decide (x ∈ l))) ∧ w = w' := by
  have H1 := index_is h hn x
  have hp := has_plc l x
  clear h
  go_enter Try.func36, Try.ntmps36
  go_wp2_with fail
  refine H1.mono ?_
  rintro e w' ⟨rfl, rfl⟩
  clear H1
  go_wp2
  go_ret
  exact ⟨by first | rw [hp] | simp [hp], rfl⟩
#print axioms contains_is
theorem new_is (w : World) : Calls Try.prog 10 #[] w fun e w' => e = .returned (.pointer (some ⟨w.heap.size, 0, none⟩)) ∧ QAt w' w.heap.size ⟨.slice none 0 0, .slice none 0 0, [], []⟩ .nilFunc 0 ∧ Below w.heap.size w w' := by
  have hb : ∀ W : World, (Instr.build 54 #[(0, .bool true)]).run Try.prog W = .ok (.agg #[.bool true, .slice none 0 0, .slice none 0 0, .nilFunc]) W := fun W => by kernel_rfl
  go_enter Try.func10, Try.ntmps10
  go_wp2
  go_ret
  refine ⟨rfl, ⟨Blk.new _ _ _, Ow.nil _ _ _, Ow.nil _ _ _, by simp [Qu.bl, Value.ownBlock], by simp, by simp, by omega⟩, below_al _ _⟩
#print axioms new_is
end Go.Proofs.Ytipipckbcelphaa.Oct
