/-
  Layer 12 (deps): hashes held against each other; lists of hashes; Place, Hashes, isLong.
-/
import Derived.Test.YtgdecjacbkicmaaDoorHs
import Derived.Test.YtgdecjacbkicmaaDoorRow
import Derived.Deep.RegionHeld
import Derived.Deep.MidRow
namespace Go.Proofs.YtgdecjacbkicmaaDoor.Oct
open Go.RowKit
set_option maxRecDepth 100000

theorem part5 (xs : Array Value) (i : Nat) (v : Value) (h : xs[i]? = some v) (W : World) : (part 5 xs i).run Tryd.prog W = .ok v W := by
  simp [part, isAgg, run_underlying Tryd.underlying5, h]
theorem eqItems_is (a b : Hs) (ha : a.length = 32) (hb : b.length = 32) (W : World) : ∀ is : List Nat, (∀ i ∈ is, i < 32) → (Op.eqItems 9999 5 1 (U a).toArray (U b).toArray is).run Tryd.prog W = .ok (is.all fun i => a[i]? == b[i]?) W
  | [], _ => by simp [Op.eqItems]
  | i :: is, h => by
    have hi : i < 32 := h i (by simp)
    have hia : i < a.length := by omega
    have hib : i < b.length := by omega
    have hp := part5 (U a).toArray i _ (by rw [List.getElem?_toArray]; exact U_get a i hia) W
    have hp2 := part5 (U b).toArray i _ (by rw [List.getElem?_toArray]; exact U_get b i hib) W
    have he := run_equalIn_int (P := Tryd.prog) (w := W) 9998 5 .u8 .u8 (a[i].toNat : Int) (b[i].toNat : Int) Tryd.underlying5
    have ih := eqItems_is a b ha hb W is (fun j hj => h j (by simp [hj]))
    have e1 : (a[i]? == b[i]?) = ((a[i].toNat : Int) == (b[i].toNat : Int)) := by
      rw [List.getElem?_eq_getElem hia, List.getElem?_eq_getElem hib]
      by_cases hc : a[i] = b[i]
      · simp [hc]
      · have : ¬ (a[i].toNat : Int) = b[i].toNat := fun hx => hc (UInt8.toNat_inj.1 (by omega))
        rw [beq_eq_false_iff_ne.2 this]
        simpa using hc
    simp only [Op.eqItems, Sem.run_bind, Nat.mul_one, hp, hp2, Result.andThen_ok, he]
    simp only [List.all_cons, e1]
    cases hc : ((a[i].toNat : Int) == (b[i].toNat : Int)) with
    | true => simpa using ih
    | false => simp
theorem eqH (a b : Hs) (ha : a.length = 32) (hb : b.length = 32) (W : World) : (Op.equalIn 10000 36 (.agg (U a).toArray) (.agg (U b).toArray)).run Tryd.prog W = .ok (decide (a = b)) W := by
  obtain ⟨i, hi, -⟩ := Option.map_eq_some_iff.1 (show (Tryd.prog.info? 5).map (·.size) = some 1 by kernel_rfl)
  rw [run_equalIn_array W 9999 (U a).toArray (U b).toArray Tryd.underlying36 hi, show Tryd.prog.cellsOf 5 = 1 by kernel_rfl, eqItems_is a b ha hb W _ (by intro i hi; rw [List.mem_range] at hi; omega)]
  congr 1
  rw [Bool.eq_iff_iff]
  simp only [List.all_eq_true, List.mem_range, beq_iff_eq, decide_eq_true_eq]
  constructor
  · intro h
    apply List.ext_getElem?
    intro i
    by_cases hi : i < 32
    · exact h i hi
    · rw [List.getElem?_eq_none (by omega), List.getElem?_eq_none (by omega)]
  · rintro rfl i _; rfl

/-- a list of hashes that can be read -/
def HsR (w : World) (a : Option Addr) (n : Nat) (hs : List Hs) : Prop :=
  hs.length = n ∧ (∀ h ∈ hs, h.length = 32) ∧ (0 < n → ∃ g off, a = some ⟨g, off, none⟩ ∧ g < w.heap.size ∧ ∀ i h, hs[i]? = some h → w.rangeAt g (off + i * 32) (U h))
theorem rangeAt_same {w w' : World} {g o : Nat} {cs : List Value} (h : w.rangeAt g o cs) (hs : w'.heap[g]? = w.heap[g]?) : w'.rangeAt g o cs := by
  intro j v hj
  rw [← h j v hj]
  simp only [World.cell?, hs]
theorem HsR.same {w w' : World} {a : Option Addr} {n : Nat} {hs : List Hs} (h : HsR w a n hs) (hsz : w.heap.size ≤ w'.heap.size) (hk : ∀ g off, a = some ⟨g, off, none⟩ → w'.heap[g]? = w.heap[g]?) : HsR w' a n hs := by
  refine ⟨h.1, h.2.1, fun hp => ?_⟩
  obtain ⟨g, off, e, h1, h2⟩ := h.2.2 hp
  exact ⟨g, off, e, by omega, fun i x hx => rangeAt_same (h2 i x hx) (hk g off e)⟩
theorem HsR.below {w w' : World} {a : Option Addr} {n : Nat} {hs : List Hs} (h : HsR w a n hs) (hb : Below w.heap.size w w') : HsR w' a n hs := by
  refine ⟨h.1, h.2.1, fun hp => ?_⟩
  obtain ⟨g, off, e, h1, h2⟩ := h.2.2 hp
  exact ⟨g, off, e, Nat.lt_of_lt_of_le h1 hb.size, fun i x hx => rangeAt_same (h2 i x hx) (hb.block g h1)⟩
theorem HsR.nil (w : World) (a : Option Addr) : HsR w a 0 [] := ⟨rfl, by simp, fun h => absurd h (by omega)⟩
theorem info47 : ∀ (h : Hs), h.length = 32 → (Tryd.prog.info? 36).map (·.size) = some (U h).length := by
  intro h hl; rw [U_length, hl]; kernel_rfl

/-- the first place of a hash, or -1 -/
def placeOf (h : Hs) (hs : List Hs) : Int := match hs.findIdx? (· == h) with | some i => i | none => -1
theorem placeOf_at {h : Hs} {hs : List Hs} {i : Nat} (hi : hs[i]? = some h) (hn : ∀ j x, j < i → hs[j]? = some x → x ≠ h) : placeOf h hs = i := by
  unfold placeOf
  obtain ⟨hlt, hx⟩ := List.getElem?_eq_some_iff.1 hi
  have : hs.findIdx? (· == h) = some i := by
    rw [List.findIdx?_eq_some_iff_getElem]
    refine ⟨hlt, by simp [hx], fun j hj => ?_⟩
    have := hn j hs[j] hj (List.getElem?_eq_getElem (by omega))
    simpa using this
  rw [this]
theorem placeOf_no {h : Hs} {hs : List Hs} (hn : ∀ x ∈ hs, x ≠ h) : placeOf h hs = -1 := by
  unfold placeOf
  have : hs.findIdx? (· == h) = none := by
    rw [List.findIdx?_eq_none_iff]
    intro x hx
    have := hn x hx
    simpa using this
  rw [this]
theorem placeOf_mem (h : Hs) (hs : List Hs) : 0 ≤ placeOf h hs ↔ h ∈ hs := by
  constructor
  · intro hp
    refine Classical.byContradiction fun hc => ?_
    rw [placeOf_no (h := h) (fun x hx e => hc (by rw [← e]; exact hx))] at hp
    omega
  · intro hm
    unfold placeOf
    cases he : hs.findIdx? (· == h) with
    | none =>
      rw [List.findIdx?_eq_none_iff] at he
      have := he h hm
      simp at this
    | some i => simp

end Go.Proofs.YtgdecjacbkicmaaDoor.Oct
