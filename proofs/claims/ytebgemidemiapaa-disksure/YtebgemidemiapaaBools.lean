/-
  Layer 5 (disk): a list of yes and no among a law's arguments, as the walks take it.
-/
import Derived.Test.YtebgemidemiapaaActs
namespace Go.Proofs.Ytebgemidemiapaa.Oct
open Go.RowKit Go.ChangeShapes Go.WideShapes Go.ChangeAt Go.Deep

/-- a list of yes and no that came in -/
def ArgT (w : World) (a : Option Addr) (len cap : Nat) (l : List Bool) : Prop :=
  l.length = len ∧ len ≤ cap ∧ cap ≤ maxLen ∧ (0 < len → ∃ b off, a = some ⟨b, off, none⟩ ∧ b < w.heap.size ∧ ∀ i x, l[i]? = some x → w.cell? ⟨b, off + i, none⟩ = some (.bool x))
theorem ArgT.below {w w' : World} {a : Option Addr} {len cap : Nat} {l : List Bool} (h : ArgT w a len cap l) (hb : Below w.heap.size w w') : ArgT w' a len cap l := by
  obtain ⟨h1, h2, h3, h5⟩ := h
  refine ⟨h1, h2, h3, fun hp => ?_⟩
  obtain ⟨b, off, e1, e2, e3⟩ := h5 hp
  exact ⟨b, off, e1, Nat.lt_of_lt_of_le e2 hb.size, fun i x hx => (hb.cell (p := ⟨b, off + i, none⟩) e2).trans (e3 i x hx)⟩

section
variable {H : Type} {enc : TypeId × Value → H} {w : World}
theorem view_bools {fuel : Nat} {a : Option Addr} {len cap : Nat} {x : DataW H × List MemPlace} (h : DataW.trod enc Try.prog w 0 (fun _ => true) true fuel 40 (Value.slice a len cap).cells.toList = some x) :
    ∃ l, ArgT w a len cap l := by
  rcases open_slice Try.underlying40 h with ⟨hcs, _⟩ | ⟨ad, l, c, m, n, D, Pl, hcs, _, hl, hm, hmm, hd, hr⟩
  · simp [Value.cells] at hcs
    obtain ⟨rfl, rfl, rfl⟩ := hcs
    exact ⟨[], rfl, Nat.le_refl _, by unfold maxLen; omega, fun h => absurd h (by omega)⟩
  · simp [Value.cells] at hcs
    obtain ⟨rfl, rfl, rfl⟩ := hcs
    simp at hmm
    have ce : Try.prog.cellsOf 4 = 1 := by kernel_rfl
    rw [ce] at hr
    have hsp : 0 < len → ad.spot = none := fun hp => by
      obtain ⟨cs, h1, _⟩ := hr 0 (by omega)
      obtain ⟨_, hlen, hcell⟩ := World.cells?_some h1
      have h0 := hcell 0 (by omega)
      rw [List.getElem?_eq_getElem (by omega)] at h0
      have := World.cell?_spot h0
      simpa [Addr.add] using this
    have each : ∀ i, i < len → ∃ x : Bool, ∃ b off, ad = ⟨b, off, none⟩ ∧ b < w.heap.size ∧ w.cell? ⟨b, off + i, none⟩ = some (.bool x) := by
      intro i hi
      obtain ⟨cs, h1, h2⟩ := hr i (by omega)
      obtain ⟨_, hlen, hcell⟩ := World.cells?_some h1
      obtain ⟨v, rfl⟩ : ∃ v, cs = [v] := by
        rcases cs with _ | ⟨v, _ | ⟨u, cs⟩⟩ <;> simp at hlen
        exact ⟨v, rfl⟩
      obtain ⟨k3, hv3, _⟩ := DataW.trod_bool Try.underlying4 h2
      simp at hv3
      subst hv3
      have e0 := hcell 0 (by omega)
      obtain ⟨b, off, spot⟩ := ad
      have hspot : spot = none := hsp (by omega)
      subst hspot
      rw [Addr.add_lit, Addr.add_lit] at e0
      refine ⟨k3, b, off, rfl, ?_, by simpa using e0⟩
      have := World.block_lt_of_cell? w _ e0
      simpa using this
    obtain ⟨f, hf⟩ : ∃ f : Nat → Bool, ∀ i, i < len → ∃ b off, ad = ⟨b, off, none⟩ ∧ b < w.heap.size ∧ w.cell? ⟨b, off + i, none⟩ = some (.bool (f i)) :=
      ⟨fun i => if hi : i < len then Classical.choose (each i hi) else false, fun i hi => by
        have := Classical.choose_spec (each i hi)
        simpa [hi] using this⟩
    refine ⟨(List.range len).map f, by simp, hl, hm, fun hp => ?_⟩
    obtain ⟨b, off, e1, e2, _⟩ := hf 0 hp
    refine ⟨b, off, by rw [e1], e2, fun i x hx => ?_⟩
    have hlt : i < len := by
      have := (List.getElem?_eq_some_iff.1 hx).1
      simpa using this
    obtain ⟨b', off', e1', _, e3'⟩ := hf i hlt
    rw [e1] at e1'
    cases e1'
    rw [List.getElem?_map, List.getElem?_range hlt] at hx
    have : f i = x := by simpa using hx
    rw [← this]
    exact e3'
end
#print axioms view_bools
end Go.Proofs.Ytebgemidemiapaa.Oct
