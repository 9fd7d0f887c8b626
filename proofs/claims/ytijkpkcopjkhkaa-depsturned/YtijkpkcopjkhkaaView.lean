/-
  Layer 12 (deps): the laws' items and hashes among their arguments, as the walks take them.
-/
import Derived.Test.YtijkpkcopjkhkaaItems
import Derived.Deep.Slices
import Derived.ChangeSame
import Derived.OpenShut
import Derived.ShutString
import Derived.ChangeOld
import Derived.WideKeyArr2
namespace Go.Proofs.Ytijkpkcopjkhkaa.Oct
open Go.RowKit Go.ChangeShapes Go.WideShapes Go.ChangeAt Go.Deep

instance : Inhabited It := ⟨⟨[], [], none, 0, 0⟩⟩
section
variable {H : Type} {enc : TypeId × Value → H} {w : World}

theorem mem_weightsAll {P : Program} {e : TypeId} {d : DataW H} {n : Nat} (hn : n ∈ d.weights P e) : ∀ {ds : List (DataW H)}, d ∈ ds → n ∈ DataW.weightsAll P e ds
  | [], h => by cases h
  | d0 :: r, h => by
    simp only [DataW.weightsAll, List.mem_append]
    rcases List.mem_cons.1 h with rfl | h
    · exact .inl hn
    · exact .inr (mem_weightsAll hn h)
/-- a hash that was read -/
theorem view_hash {n : Nat} {cs : List Value} {x : DataW H × List MemPlace} (h : DataW.trod enc Try.prog w 0 (fun _ => true) true n 34 cs = some x) : ∃ hh : Hs, hh.length = 32 ∧ cs = U hh := by
  obtain ⟨xs, m, _, _, hl, hxl, hf⟩ := DataW.trod_array Try.underlying34 h
  have hl' : cs.length = 32 := by rw [hl]; kernel_rfl
  have c5 : Try.prog.cellsOf 5 = 1 := by kernel_rfl
  rw [c5] at hf
  have each : ∀ i, i < 32 → ∃ c : UInt8, cs[i]? = some (.int .u8 (c.toNat : Int)) := by
    intro i hi
    have h1 := hf i hi
    rw [List.getElem?_eq_getElem (by omega)] at h1
    obtain ⟨k, hk, _, hw⟩ := DataW.trod_int Try.underlying5 h1
    have hb := bounds_u8 hw
    refine ⟨UInt8.ofNat k.toNat, ?_⟩
    have : cs[i]? = some (.int .u8 k) := by
      rw [Nat.mul_one] at hk
      have := congrArg (·[0]?) hk
      simpa [List.getElem?_take, List.getElem?_drop] using this
    rw [this, UInt8.toNat_ofNat']
    congr 2
    omega
  obtain ⟨G, hG⟩ := choose_lt each
  refine ⟨(List.range 32).map G, by simp, ?_⟩
  apply List.ext_getElem?
  intro i
  by_cases hi : i < 32
  · rw [hG i hi]; simp [U, hi]
  · rw [List.getElem?_eq_none (by omega), List.getElem?_eq_none (by simp [U]; omega)]
#print axioms view_hash
/-- cells that were read are a range -/
theorem range_of_cells {b off n : Nat} {cs : List Value} (h : w.cells? 0 ⟨b, off, none⟩ n = some cs) : w.rangeAt b off cs := by
  obtain ⟨_, hlen, hcell⟩ := World.cells?_some h
  intro j v hj
  have hlt := (List.getElem?_eq_some_iff.1 hj).1
  have := hcell j (by omega)
  rw [Addr.add_lit] at this
  rw [← hj]
  exact this
/-- hashes that were read -/
theorem view_hashes {fuel : Nat} {cs : List Value} {x : DataW H × List MemPlace} (h : DataW.trod enc Try.prog w 0 (fun _ => true) true fuel 26 cs = some x) (hx : ∀ n ∈ x.1.weights Try.prog 26, n ≤ reachBytes) :
    ∃ a len cap hs, cs = [.slice a len cap] ∧ HsR w a len hs ∧ len ≤ cap ∧ len ≤ 140737488355328 := by
  rcases open_slice Try.underlying26 h with ⟨hcs, _⟩ | ⟨ad, len, cap, m, n, D, Pl, hcs, _, hl, hm, hmm, hd, hr⟩
  · exact ⟨none, 0, 0, [], hcs, HsR.nil _ _, Nat.le_refl _, by omega⟩
  · refine ⟨some ad, len, cap, ?_⟩
    simp at hmm
    have ce : Try.prog.cellsOf 34 = 32 := by kernel_rfl
    rw [ce] at hr
    have hsp : 0 < len → ad.spot = none := fun hp => by
      obtain ⟨cs, h1, _⟩ := hr 0 (by omega)
      obtain ⟨_, hlen, hcell⟩ := World.cells?_some h1
      have h0 := hcell 0 (by omega)
      rw [List.getElem?_eq_getElem (by omega)] at h0
      have := World.cell?_spot h0
      simpa [Addr.add] using this
    have each : ∀ i, i < len → ∃ x : Hs, x.length = 32 ∧ ∃ b off, ad = ⟨b, off, none⟩ ∧ b < w.heap.size ∧ w.rangeAt b (off + i * 32) (U x) := by
      intro i hi
      obtain ⟨cs, h1, h2⟩ := hr i (by omega)
      obtain ⟨hh, hhl, rfl⟩ := view_hash h2
      obtain ⟨b, off, spot⟩ := ad
      have hspot : spot = none := hsp (by omega)
      subst hspot
      rw [Addr.add_lit] at h1
      have hra := range_of_cells h1
      refine ⟨hh, hhl, b, off, rfl, ?_, hra⟩
      have e0 := hra 0 _ (U_get hh 0 (by omega))
      have := World.block_lt_of_cell? w _ e0
      simpa using this
    obtain ⟨G, hG⟩ := choose_lt each
    refine ⟨(List.range len).map G, hcs, ⟨by simp, ?_, fun hp => ?_⟩, hl, ?_⟩
    · intro h hh
      obtain ⟨i, hi, rfl⟩ := List.mem_map.1 hh
      exact (hG i (List.mem_range.1 hi)).1
    · obtain ⟨_, b, off, e1, e2, _⟩ := hG 0 hp
      refine ⟨b, off, by rw [e1], e2, fun i x hi => ?_⟩
      have hlt : i < len := by
        have := (List.getElem?_eq_some_iff.1 hi).1
        simpa using this
      have e : G i = x := by simpa [List.getElem?_map, List.getElem?_range hlt] using hi
      subst e
      obtain ⟨_, b', off', f1, _, f3⟩ := hG i hlt
      rw [e1] at f1
      cases f1
      exact f3
    · have hmem : (len + (m - len)) * Try.prog.bytesOf 34 ∈ x.1.weights Try.prog 26 := by
        rw [hd]
        simp [DataW.weights, Try.underlying26]
      have := hx _ hmem
      rw [show Try.prog.bytesOf 34 = 32 by kernel_rfl] at this
      simp only [reachBytes] at this
      omega
#print axioms view_hashes
/-- items that were read -/
theorem view_items {fuel : Nat} {a : Option Addr} {len cap : Nat} {x : DataW H × List MemPlace} (h : DataW.trod enc Try.prog w 0 (fun _ => true) true fuel 22 (Value.slice a len cap).cells.toList = some x) (hx : ∀ n ∈ x.1.weights Try.prog 22, n ≤ reachBytes) :
    ∃ l, Its w a len l ∧ len ≤ cap ∧ cap ≤ maxLen := by
  rcases open_slice Try.underlying22 h with ⟨hcs, _⟩ | ⟨ad, l, c, m, n, D, Pl, hcs, _, hl, hm, hmm, hd, hr⟩
  · simp [Value.cells] at hcs
    obtain ⟨rfl, rfl, rfl⟩ := hcs
    exact ⟨[], ⟨rfl, fun h => absurd h (by omega)⟩, Nat.le_refl _, by unfold maxLen; omega⟩
  · simp [Value.cells] at hcs
    obtain ⟨rfl, rfl, rfl⟩ := hcs
    simp at hmm
    have ce : Try.prog.cellsOf 36 = 33 := by kernel_rfl
    rw [ce] at hr
    have hsp : 0 < len → ad.spot = none := fun hp => by
      obtain ⟨cs, h1, _⟩ := hr 0 (by omega)
      obtain ⟨_, hlen, hcell⟩ := World.cells?_some h1
      have h0 := hcell 0 (by omega)
      rw [List.getElem?_eq_getElem (by omega)] at h0
      have := World.cell?_spot h0
      simpa [Addr.add] using this
    have each : ∀ i, i < len → ∃ x : It, ∃ b off, ad = ⟨b, off, none⟩ ∧ b < w.heap.size ∧ ItAt w b (off + i * 33) x := by
      intro i hi
      obtain ⟨cs, h1, h2⟩ := hr i (by omega)
      obtain ⟨_, hlen, hcell⟩ := World.cells?_some h1
      obtain ⟨xs, k, hk, hxy, _, hxl, hf⟩ := DataW.trod_struct Try.underlying36 h2
      have hxl' : xs.length = 2 := hxl
      obtain ⟨y0, y1, rfl⟩ : ∃ a b, xs = [a, b] := by
        rcases xs with _ | ⟨a, _ | ⟨b, _ | ⟨c, l⟩⟩⟩ <;> simp at hxl'
        exact ⟨a, b, rfl⟩
      have g0 := hf 0 _ rfl
      have g1 := hf 1 _ rfl
      have q34 : Try.prog.cellsOf 34 = 32 := by kernel_rfl
      have q26 : Try.prog.cellsOf 26 = 1 := by kernel_rfl
      change DataW.trod enc Try.prog w 0 _ true k 34 ((cs.drop 0).take (Try.prog.cellsOf 34)) = some y0 at g0
      change DataW.trod enc Try.prog w 0 _ true k 26 ((cs.drop 32).take (Try.prog.cellsOf 26)) = some y1 at g1
      rw [q34, List.drop_zero] at g0
      rw [q26] at g1
      have hD : D i = .agg [y0.1, y1.1] := (Prod.mk.inj hxy).1
      have hmem : ∀ q ∈ (D i).weights Try.prog 36, q ≤ reachBytes := fun q hq => by
        refine hx q ?_
        rw [hd]
        simp only [DataW.weights, Try.underlying22]
        exact List.mem_cons.2 (.inr (List.mem_append.2 (.inl (mem_weightsAll hq (List.mem_map.2 ⟨i, List.mem_range.2 hi, rfl⟩)))))
      rw [hD] at hmem
      simp only [DataW.weights, Try.underlying36, List.map, DataW.weightsEach, List.mem_append] at hmem
      obtain ⟨nm, hnl, hnm⟩ := view_hash g0
      obtain ⟨da, dn, dc, ds, hds, hdr, hdc, hdl⟩ := view_hashes g1 (fun q hq => hmem q (.inr (.inl hq)))
      obtain ⟨b, off, spot⟩ := ad
      have hspot : spot = none := hsp (by omega)
      subst hspot
      rw [Addr.add_lit] at h1
      have hra := range_of_cells h1
      have hcs : cs = U nm ++ [.slice da dn dc] := by
        rw [← hnm, ← hds]
        rw [List.take_of_length_le (l := cs.drop 32) (by simp; omega)]
        simp
      rw [hcs] at hra
      refine ⟨⟨nm, ds, da, dn, dc⟩, b, off, rfl, ?_, hnl, hra, hdr, hdc, hdl⟩
      have e0 := hra 0 _ (by rw [List.getElem?_append_left (by rw [U_length]; omega)]; exact U_get nm 0 (by omega))
      have := World.block_lt_of_cell? w _ e0
      simpa using this
    obtain ⟨G, hG⟩ := choose_lt (p := fun i x => ∃ b off, ad = ⟨b, off, none⟩ ∧ b < w.heap.size ∧ ItAt w b (off + i * 33) x) each
    refine ⟨(List.range len).map G, ⟨by simp, fun hp => ?_⟩, hl, hm⟩
    obtain ⟨b, off, e1, e2, _⟩ := hG 0 hp
    refine ⟨b, off, by rw [e1], e2, fun i x hi => ?_⟩
    have hlt : i < len := by
      have := (List.getElem?_eq_some_iff.1 hi).1
      simpa using this
    have e : G i = x := by simpa [List.getElem?_map, List.getElem?_range hlt] using hi
    subst e
    obtain ⟨b', off', f1, _, f3⟩ := hG i hlt
    rw [e1] at f1
    cases f1
    exact f3
#print axioms view_items
end
end Go.Proofs.Ytijkpkcopjkhkaa.Oct
