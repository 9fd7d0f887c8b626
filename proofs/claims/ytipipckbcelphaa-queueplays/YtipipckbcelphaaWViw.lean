/-
  Layer 21 (queue): numbers among the laws' arguments.
-/
import Derived.Test.YtipipckbcelphaaWQlv
import Derived.Deep.Slices
import Derived.ProofKit
import Derived.SizedLaws
import Derived.ChangeSame
import Derived.OpenShut
import Derived.ShutString
import Derived.ChangeOld
namespace Go.Proofs.Ytipipckbcelphaa.Oct
open Go.RowKit Go.ChangeShapes Go.WideShapes Go.ChangeAt Go.Deep

theorem mem_weightsAll {H : Type} {P : Program} {e : TypeId} {d : DataW H} {n : Nat} (hn : n ∈ d.weights P e) : ∀ {ds : List (DataW H)}, d ∈ ds → n ∈ DataW.weightsAll P e ds
  | [], h => by cases h
  | d0 :: r, h => by
    simp only [DataW.weightsAll, List.mem_append]
    rcases List.mem_cons.1 h with rfl | h
    · exact .inl hn
    · exact .inr (mem_weightsAll hn h)
abbrev I64 (n : Int) : Prop := -9223372036854775808 ≤ n ∧ n ≤ 9223372036854775807
section
variable {H : Type} {enc : TypeId × Value → H} {w : World}
/-- numbers that came in -/
def ArgN (w : World) (a : Option Addr) (len cap : Nat) (l : List Int) : Prop :=
  l.length = len ∧ len ≤ cap ∧ cap ≤ maxLen ∧ (∀ x ∈ l, I64 x) ∧ (0 < len → ∃ b off, a = some ⟨b, off, none⟩ ∧ b < w.heap.size ∧ ∀ i x, l[i]? = some x → w.cell? ⟨b, off + i, none⟩ = some (iv x))
theorem ArgN.below {w w' : World} {a : Option Addr} {len cap : Nat} {l : List Int} (h : ArgN w a len cap l) (hb : Below w.heap.size w w') : ArgN w' a len cap l := by
  obtain ⟨h1, h2, h3, h4, h5⟩ := h
  refine ⟨h1, h2, h3, h4, fun hp => ?_⟩
  obtain ⟨b, off, e1, e2, e3⟩ := h5 hp
  exact ⟨b, off, e1, Nat.lt_of_lt_of_le e2 hb.size, fun i x hx => (hb.cell (p := ⟨b, off + i, none⟩) e2).trans (e3 i x hx)⟩
theorem view_ints {fuel : Nat} {a : Option Addr} {len cap : Nat} {x : DataW H × List MemPlace} (h : DataW.trod enc Try.prog w 0 (fun _ => true) true fuel 27 (Value.slice a len cap).cells.toList = some x) (_hx : ∀ n ∈ x.1.weights Try.prog 27, n ≤ reachBytes) :
    ∃ l, ArgN w a len cap l := by
  rcases open_slice Try.underlying27 h with ⟨hcs, _⟩ | ⟨ad, l, c, m, n, D, Pl, hcs, _, hl, hm, hmm, hd, hr⟩
  · simp [Value.cells] at hcs
    obtain ⟨rfl, rfl, rfl⟩ := hcs
    exact ⟨[], rfl, Nat.le_refl _, by unfold maxLen; omega, by simp, fun h => absurd h (by omega)⟩
  · simp [Value.cells] at hcs
    obtain ⟨rfl, rfl, rfl⟩ := hcs
    simp at hmm
    have ce : Try.prog.cellsOf 3 = 1 := by kernel_rfl
    rw [ce] at hr
    have hsp : 0 < len → ad.spot = none := fun hp => by
      obtain ⟨cs, h1, _⟩ := hr 0 (by omega)
      obtain ⟨_, hlen, hcell⟩ := World.cells?_some h1
      have h0 := hcell 0 (by omega)
      rw [List.getElem?_eq_getElem (by omega)] at h0
      have := World.cell?_spot h0
      simpa [Addr.add] using this
    have each : ∀ i, i < len → ∃ x : Int, I64 x ∧ ∃ b off, ad = ⟨b, off, none⟩ ∧ b < w.heap.size ∧ w.cell? ⟨b, off + i, none⟩ = some (iv x) := by
      intro i hi
      obtain ⟨cs, h1, h2⟩ := hr i (by omega)
      obtain ⟨_, hlen, hcell⟩ := World.cells?_some h1
      obtain ⟨k, rfl, _, wf⟩ := DataW.trod_int Try.underlying3 h2
      have hc0 := hcell 0 (by omega)
      obtain ⟨b, off, spot⟩ := ad
      have hs := hsp (by omega)
      simp only at hs
      subst hs
      rw [Addr.add_lit, Addr.add_lit] at hc0
      simp only [Nat.mul_one, Nat.add_zero, List.getElem?_cons_zero] at hc0
      have hlt := World.block_lt_of_cell? w _ hc0
      exact ⟨k, bounds_i64 wf, b, off, rfl, hlt, hc0⟩
    refine ⟨(List.range len).map fun i => if h : i < len then (each i h).choose else default, by simp, by omega, by omega, ?_, fun hp => ?_⟩
    · intro x hx
      obtain ⟨i, hi, rfl⟩ := List.mem_map.1 hx
      have hlt := List.mem_range.1 hi
      rw [dif_pos hlt]
      exact (each i hlt).choose_spec.1
    obtain ⟨_, _, b, off, e1, e2, _⟩ := each 0 hp
    refine ⟨b, off, by rw [e1], e2, fun i x hx => ?_⟩
    have hlt : i < len := by
      have := (List.getElem?_eq_some_iff.1 hx).1
      simpa using this
    have e : (each i hlt).choose = x := by simpa [List.getElem?_map, List.getElem?_range hlt, hlt] using hx
    obtain ⟨_, b', off', e3, _, e5⟩ := (each i hlt).choose_spec
    rw [e1] at e3
    cases e3
    rw [e] at e5
    exact e5
theorem ArgN.nums {w : World} {a : Option Addr} {len cap : Nat} {l : List Int} (h : ArgN w a len cap l) : Nums w a len l := ⟨h.1, h.2.2.2.2⟩
end
#print axioms view_ints
end Go.Proofs.Ytipipckbcelphaa.Oct
