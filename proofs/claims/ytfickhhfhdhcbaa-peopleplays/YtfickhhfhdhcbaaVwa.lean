/-
  Layer 15 (people): calls among the laws' arguments, with their sizes.
-/
import Derived.Test.YtfickhhfhdhcbaaView
import Derived.SizedLaws
import Derived.OpenShut
import Derived.ShutString
import Derived.ChangeOld
namespace Go.Proofs.Ytfickhhfhdhcbaa.Oct
open Go.RowKit Go.ChangeShapes Go.WideShapes Go.ChangeAt Go.Deep
set_option linter.unusedSimpArgs false
set_option linter.unusedVariables false

abbrev iv (n : Int) : Value := .int .i64 n
/-- a call: its kind, organisation, team, user, role -/
structure Av where
  k : Int
  x : Hs
  t : Hs
  u : Hs
  r : Int
def Av.cells (a : Av) : List Value := [iv a.k, hv a.x, hv a.t, hv a.u, iv a.r]
def Av.ok (a : Av) : Prop := a.x.length ≤ 140737488355328 ∧ a.t.length ≤ 140737488355328 ∧ a.u.length ≤ 140737488355328
instance : Inhabited Av := ⟨⟨0, [], [], [], 0⟩⟩
theorem hv_back (s : ByteArray) : hv s.data.toList = .string s := by
  cases s
  simp [hv]
theorem sz_back (s : ByteArray) : s.data.toList.length = s.size := by
  cases s
  rfl
/-- calls that came in -/
def ArgA (w : World) (a : Option Addr) (len : Nat) (cap : Nat) (l : List Av) : Prop :=
  l.length = len ∧ len ≤ 2199023255552 ∧ (∀ x ∈ l, x.ok) ∧ (0 < len → ∃ b off, a = some ⟨b, off, none⟩ ∧ b < w.heap.size ∧ ∀ i x, l[i]? = some x → w.rangeAt b (off + i * 5) x.cells)
theorem len5 {α : Type} {l : List α} (h : l.length = 5) : ∃ a0 a1 a2 a3 a4, l = [a0, a1, a2, a3, a4] := by
  rcases l with _ | ⟨a0, _ | ⟨a1, _ | ⟨a2, _ | ⟨a3, _ | ⟨a4, _ | ⟨z, l⟩⟩⟩⟩⟩⟩ <;> simp at h
  exact ⟨a0, a1, a2, a3, a4, rfl⟩
theorem mem_weightsAll {H : Type} {P : Program} {e : TypeId} {d : DataW H} {n : Nat} (hn : n ∈ d.weights P e) : ∀ {ds : List (DataW H)}, d ∈ ds → n ∈ DataW.weightsAll P e ds
  | [], h => by cases h
  | d0 :: r, h => by
    simp only [DataW.weightsAll, List.mem_append]
    rcases List.mem_cons.1 h with rfl | h
    · exact .inl hn
    · exact .inr (mem_weightsAll hn h)
section
variable {H : Type} {enc : TypeId × Value → H} {w : World}
theorem field_str {n : Nat} {v : Value} {x : DataW H × List MemPlace} (h : DataW.trod enc Try.prog w 0 (fun _ => true) true n 9 [v] = some x) (hx : ∀ k ∈ x.1.weights Try.prog 9, k ≤ reachBytes) :
    ∃ s : ByteArray, v = .string s ∧ s.size ≤ 140737488355328 := by
  obtain ⟨s, hs, hd, _⟩ := DataW.trod_string Try.underlying9 h
  refine ⟨s, by simpa using hs, ?_⟩
  have hmem : s.size ∈ x.1.weights Try.prog 9 := by
    rw [hd]
    simp [DataW.weights]
  have := hx _ hmem
  simp only [reachBytes] at this
  omega
theorem view_str {n : Nat} {v : ByteArray} {x : DataW H × List MemPlace} (h : DataW.trod enc Try.prog w 0 (fun _ => true) true n 9 (Value.string v).cells.toList = some x) (hx : ∀ k ∈ x.1.weights Try.prog 9, k ≤ reachBytes) : v.size ≤ 140737488355328 := by
  obtain ⟨s, h1, h2⟩ := field_str (v := .string v) (by simpa [Value.cells] using h) hx
  cases h1
  exact h2
theorem view_act2 {fuel : Nat} {xs : Array Value} {x : DataW H × List MemPlace} (h : DataW.trod enc Try.prog w 0 (fun _ => true) true fuel 32 (Value.agg xs).cells.toList = some x) (hs : xs.size = Try.prog.cellsOf 32) (hw : ∀ n ∈ x.1.weights Try.prog 32, n ≤ reachBytes) :
    ∃ y : Av, xs = #[iv y.k, hv y.x, hv y.t, hv y.u, iv y.r] ∧ y.ok := by
  rw [show Try.prog.cellsOf 32 = 5 by kernel_rfl] at hs
  rw [show (Value.agg xs).cells.toList = xs.toList by simp [Value.cells]] at h
  obtain ⟨v0, v1, v2, v3, v4, hv'⟩ := len5 (l := xs.toList) (by simpa using hs)
  rw [hv'] at h
  obtain ⟨ys1, k1, hk1, hxy1, _, hxl1, hf1⟩ := DataW.trod_struct Try.underlying32 h
  have hxl1' : ys1.length = 5 := hxl1
  obtain ⟨y1_0, y1_1, y1_2, y1_3, y1_4, rfl⟩ := len5 hxl1'
  have g1_0 := hf1 0 _ rfl
  change DataW.trod enc Try.prog w 0 _ true k1 3 (([v0, v1, v2, v3, v4].drop 0).take (Try.prog.cellsOf 3)) = some y1_0 at g1_0
  rw [show Try.prog.cellsOf 3 = 1 by kernel_rfl] at g1_0
  simp only [List.drop, List.take] at g1_0
  have w1_0 : ∀ q ∈ y1_0.1.weights Try.prog 3, q ≤ reachBytes := fun q hq => hw q (by
    rw [show x.1 = DataW.agg [y1_0.1, y1_1.1, y1_2.1, y1_3.1, y1_4.1] from congrArg Prod.fst hxy1]
    simp only [DataW.weights, Try.underlying32, DataW.weightsEach, List.map, List.mem_append]
    exact .inl hq)
  have g1_1 := hf1 1 _ rfl
  change DataW.trod enc Try.prog w 0 _ true k1 9 (([v0, v1, v2, v3, v4].drop 1).take (Try.prog.cellsOf 9)) = some y1_1 at g1_1
  rw [show Try.prog.cellsOf 9 = 1 by kernel_rfl] at g1_1
  simp only [List.drop, List.take] at g1_1
  have w1_1 : ∀ q ∈ y1_1.1.weights Try.prog 9, q ≤ reachBytes := fun q hq => hw q (by
    rw [show x.1 = DataW.agg [y1_0.1, y1_1.1, y1_2.1, y1_3.1, y1_4.1] from congrArg Prod.fst hxy1]
    simp only [DataW.weights, Try.underlying32, DataW.weightsEach, List.map, List.mem_append]
    exact .inr (.inl hq))
  have g1_2 := hf1 2 _ rfl
  change DataW.trod enc Try.prog w 0 _ true k1 9 (([v0, v1, v2, v3, v4].drop 2).take (Try.prog.cellsOf 9)) = some y1_2 at g1_2
  rw [show Try.prog.cellsOf 9 = 1 by kernel_rfl] at g1_2
  simp only [List.drop, List.take] at g1_2
  have w1_2 : ∀ q ∈ y1_2.1.weights Try.prog 9, q ≤ reachBytes := fun q hq => hw q (by
    rw [show x.1 = DataW.agg [y1_0.1, y1_1.1, y1_2.1, y1_3.1, y1_4.1] from congrArg Prod.fst hxy1]
    simp only [DataW.weights, Try.underlying32, DataW.weightsEach, List.map, List.mem_append]
    exact .inr (.inr (.inl hq)))
  have g1_3 := hf1 3 _ rfl
  change DataW.trod enc Try.prog w 0 _ true k1 9 (([v0, v1, v2, v3, v4].drop 3).take (Try.prog.cellsOf 9)) = some y1_3 at g1_3
  rw [show Try.prog.cellsOf 9 = 1 by kernel_rfl] at g1_3
  simp only [List.drop, List.take] at g1_3
  have w1_3 : ∀ q ∈ y1_3.1.weights Try.prog 9, q ≤ reachBytes := fun q hq => hw q (by
    rw [show x.1 = DataW.agg [y1_0.1, y1_1.1, y1_2.1, y1_3.1, y1_4.1] from congrArg Prod.fst hxy1]
    simp only [DataW.weights, Try.underlying32, DataW.weightsEach, List.map, List.mem_append]
    exact .inr (.inr (.inr (.inl hq))))
  have g1_4 := hf1 4 _ rfl
  change DataW.trod enc Try.prog w 0 _ true k1 3 (([v0, v1, v2, v3, v4].drop 4).take (Try.prog.cellsOf 3)) = some y1_4 at g1_4
  rw [show Try.prog.cellsOf 3 = 1 by kernel_rfl] at g1_4
  simp only [List.drop, List.take] at g1_4
  have w1_4 : ∀ q ∈ y1_4.1.weights Try.prog 3, q ≤ reachBytes := fun q hq => hw q (by
    rw [show x.1 = DataW.agg [y1_0.1, y1_1.1, y1_2.1, y1_3.1, y1_4.1] from congrArg Prod.fst hxy1]
    simp only [DataW.weights, Try.underlying32, DataW.weightsEach, List.map, List.mem_append]
    exact .inr (.inr (.inr (.inr (.inl hq)))))
  obtain ⟨c1_0, ec1_0, _, fc1_0⟩ := DataW.trod_int Try.underlying3 g1_0
  simp at ec1_0
  subst ec1_0
  obtain ⟨c1_1, ec1_1, bc1_1⟩ := field_str g1_1 w1_1
  subst ec1_1
  obtain ⟨c1_2, ec1_2, bc1_2⟩ := field_str g1_2 w1_2
  subst ec1_2
  obtain ⟨c1_3, ec1_3, bc1_3⟩ := field_str g1_3 w1_3
  subst ec1_3
  obtain ⟨c1_4, ec1_4, _, fc1_4⟩ := DataW.trod_int Try.underlying3 g1_4
  simp at ec1_4
  subst ec1_4
  refine ⟨⟨c1_0, c1_1.data.toList, c1_2.data.toList, c1_3.data.toList, c1_4⟩, ?_, ?_⟩
  · simp only [hv_back]
    rw [← hv']
  · simp only [Av.ok, sz_back]
    exact ⟨bc1_1, bc1_2, bc1_3⟩
theorem view_acts {fuel : Nat} {a : Option Addr} {len cap : Nat} {x : DataW H × List MemPlace} (h : DataW.trod enc Try.prog w 0 (fun _ => true) true fuel 22 (Value.slice a len cap).cells.toList = some x) (hx : ∀ n ∈ x.1.weights Try.prog 22, n ≤ reachBytes) :
    ∃ l, ArgA w a len cap l := by
  rcases open_slice Try.underlying22 h with ⟨hcs, _⟩ | ⟨ad, l, c, m, n, D, Pl, hcs, _, hl, hm, hmm, hd, hr⟩
  · simp [Value.cells] at hcs
    obtain ⟨rfl, rfl, rfl⟩ := hcs
    exact ⟨[], rfl, by omega, by simp, fun h => absurd h (by omega)⟩
  · simp [Value.cells] at hcs
    obtain ⟨rfl, rfl, rfl⟩ := hcs
    have hw : (len + (m - len)) * 64 ∈ x.1.weights Try.prog 22 := by
      rw [hd]
      simp only [DataW.weights, Try.underlying22]
      rw [show Try.prog.bytesOf 32 = 64 by kernel_rfl]
      simp
    have hsz := hx _ hw
    simp only [reachBytes] at hsz
    simp at hmm
    have ce : Try.prog.cellsOf 32 = 5 := by kernel_rfl
    rw [ce] at hr
    have hsp : 0 < len → ad.spot = none := fun hp => by
      obtain ⟨cs, h1, _⟩ := hr 0 (by omega)
      obtain ⟨_, hlen, hcell⟩ := World.cells?_some h1
      have h0 := hcell 0 (by omega)
      rw [List.getElem?_eq_getElem (by omega)] at h0
      have := World.cell?_spot h0
      simpa [Addr.add] using this
    have each : ∀ i, i < len → ∃ x : Av, x.ok ∧ ∃ b off, ad = ⟨b, off, none⟩ ∧ b < w.heap.size ∧ w.rangeAt b (off + i * 5) x.cells := by
      intro i hi
      obtain ⟨cs, h1, h2⟩ := hr i (by omega)
      obtain ⟨_, hlen, hcell⟩ := World.cells?_some h1
      obtain ⟨v0, v1, v2, v3, v4, rfl⟩ := len5 hlen
      have hmem : ∀ q ∈ (D i, Pl i).1.weights Try.prog 32, q ≤ reachBytes := fun q hq => by
        refine hx q ?_
        rw [hd]
        simp only [DataW.weights, Try.underlying22]
        exact List.mem_cons.2 (.inr (List.mem_append.2 (.inl (mem_weightsAll hq (List.mem_map.2 ⟨i, List.mem_range.2 hi, rfl⟩)))))
      obtain ⟨ys1, k1, hk1, hxy1, _, hxl1, hf1⟩ := DataW.trod_struct Try.underlying32 h2
      have hxl1' : ys1.length = 5 := hxl1
      obtain ⟨y1_0, y1_1, y1_2, y1_3, y1_4, rfl⟩ := len5 hxl1'
      have g1_0 := hf1 0 _ rfl
      change DataW.trod enc Try.prog w 0 _ true k1 3 (([v0, v1, v2, v3, v4].drop 0).take (Try.prog.cellsOf 3)) = some y1_0 at g1_0
      rw [show Try.prog.cellsOf 3 = 1 by kernel_rfl] at g1_0
      simp only [List.drop, List.take] at g1_0
      have w1_0 : ∀ q ∈ y1_0.1.weights Try.prog 3, q ≤ reachBytes := fun q hq => hmem q (by
        rw [show (D i, Pl i).1 = DataW.agg [y1_0.1, y1_1.1, y1_2.1, y1_3.1, y1_4.1] from congrArg Prod.fst hxy1]
        simp only [DataW.weights, Try.underlying32, DataW.weightsEach, List.map, List.mem_append]
        exact .inl hq)
      have g1_1 := hf1 1 _ rfl
      change DataW.trod enc Try.prog w 0 _ true k1 9 (([v0, v1, v2, v3, v4].drop 1).take (Try.prog.cellsOf 9)) = some y1_1 at g1_1
      rw [show Try.prog.cellsOf 9 = 1 by kernel_rfl] at g1_1
      simp only [List.drop, List.take] at g1_1
      have w1_1 : ∀ q ∈ y1_1.1.weights Try.prog 9, q ≤ reachBytes := fun q hq => hmem q (by
        rw [show (D i, Pl i).1 = DataW.agg [y1_0.1, y1_1.1, y1_2.1, y1_3.1, y1_4.1] from congrArg Prod.fst hxy1]
        simp only [DataW.weights, Try.underlying32, DataW.weightsEach, List.map, List.mem_append]
        exact .inr (.inl hq))
      have g1_2 := hf1 2 _ rfl
      change DataW.trod enc Try.prog w 0 _ true k1 9 (([v0, v1, v2, v3, v4].drop 2).take (Try.prog.cellsOf 9)) = some y1_2 at g1_2
      rw [show Try.prog.cellsOf 9 = 1 by kernel_rfl] at g1_2
      simp only [List.drop, List.take] at g1_2
      have w1_2 : ∀ q ∈ y1_2.1.weights Try.prog 9, q ≤ reachBytes := fun q hq => hmem q (by
        rw [show (D i, Pl i).1 = DataW.agg [y1_0.1, y1_1.1, y1_2.1, y1_3.1, y1_4.1] from congrArg Prod.fst hxy1]
        simp only [DataW.weights, Try.underlying32, DataW.weightsEach, List.map, List.mem_append]
        exact .inr (.inr (.inl hq)))
      have g1_3 := hf1 3 _ rfl
      change DataW.trod enc Try.prog w 0 _ true k1 9 (([v0, v1, v2, v3, v4].drop 3).take (Try.prog.cellsOf 9)) = some y1_3 at g1_3
      rw [show Try.prog.cellsOf 9 = 1 by kernel_rfl] at g1_3
      simp only [List.drop, List.take] at g1_3
      have w1_3 : ∀ q ∈ y1_3.1.weights Try.prog 9, q ≤ reachBytes := fun q hq => hmem q (by
        rw [show (D i, Pl i).1 = DataW.agg [y1_0.1, y1_1.1, y1_2.1, y1_3.1, y1_4.1] from congrArg Prod.fst hxy1]
        simp only [DataW.weights, Try.underlying32, DataW.weightsEach, List.map, List.mem_append]
        exact .inr (.inr (.inr (.inl hq))))
      have g1_4 := hf1 4 _ rfl
      change DataW.trod enc Try.prog w 0 _ true k1 3 (([v0, v1, v2, v3, v4].drop 4).take (Try.prog.cellsOf 3)) = some y1_4 at g1_4
      rw [show Try.prog.cellsOf 3 = 1 by kernel_rfl] at g1_4
      simp only [List.drop, List.take] at g1_4
      have w1_4 : ∀ q ∈ y1_4.1.weights Try.prog 3, q ≤ reachBytes := fun q hq => hmem q (by
        rw [show (D i, Pl i).1 = DataW.agg [y1_0.1, y1_1.1, y1_2.1, y1_3.1, y1_4.1] from congrArg Prod.fst hxy1]
        simp only [DataW.weights, Try.underlying32, DataW.weightsEach, List.map, List.mem_append]
        exact .inr (.inr (.inr (.inr (.inl hq)))))
      obtain ⟨c1_0, ec1_0, _, fc1_0⟩ := DataW.trod_int Try.underlying3 g1_0
      simp at ec1_0
      subst ec1_0
      obtain ⟨c1_1, ec1_1, bc1_1⟩ := field_str g1_1 w1_1
      subst ec1_1
      obtain ⟨c1_2, ec1_2, bc1_2⟩ := field_str g1_2 w1_2
      subst ec1_2
      obtain ⟨c1_3, ec1_3, bc1_3⟩ := field_str g1_3 w1_3
      subst ec1_3
      obtain ⟨c1_4, ec1_4, _, fc1_4⟩ := DataW.trod_int Try.underlying3 g1_4
      simp at ec1_4
      subst ec1_4
      obtain ⟨b, off, spot⟩ := ad
      have hs := hsp (by omega)
      simp only at hs
      subst hs
      have hc0 := hcell 0 (by omega)
      rw [Addr.add_lit, Addr.add_lit] at hc0
      refine ⟨⟨c1_0, c1_1.data.toList, c1_2.data.toList, c1_3.data.toList, c1_4⟩, by simp only [Av.ok, sz_back]; exact ⟨bc1_1, bc1_2, bc1_3⟩, b, off, rfl, ?_, ?_⟩
      · have := World.block_lt_of_cell? w _ hc0
        simpa using this
      · intro j v hj
        simp only [Av.cells, hv_back] at hj
        have hj5 : j < 5 := (List.getElem?_eq_some_iff.1 hj).1
        have := hcell j (by omega)
        rw [Addr.add_lit, Addr.add_lit] at this
        rw [← hj]
        exact this
    refine ⟨(List.range len).map fun i => if h : i < len then (each i h).choose else default, by simp, by omega, ?_, fun hp => ?_⟩
    · intro r hr
      obtain ⟨i, hi, rfl⟩ := List.mem_map.1 hr
      have hlt := List.mem_range.1 hi
      rw [dif_pos hlt]
      exact (each i hlt).choose_spec.1
    obtain ⟨_, _, b, off, e1, e2, _⟩ := each 0 hp
    refine ⟨b, off, by rw [e1], e2, fun i x hx => ?_⟩
    have hlt : i < len := by
      have := (List.getElem?_eq_some_iff.1 hx).1
      simpa using this
    have e : (each i hlt).choose = x := by simpa [List.getElem?_map, List.getElem?_range hlt, hlt] using hx
    obtain ⟨_, b', off', e3, _, e5⟩ := (each i hlt).choose_spec
    rw [e1] at e3
    cases e3
    rw [e] at e5
    exact e5
end
#print axioms view_acts
theorem zero32 (W : World) : (zeroValue 32).run Try.prog W = .ok (.agg #[iv 0, .string ⟨#[]⟩, .string ⟨#[]⟩, .string ⟨#[]⟩, iv 0]) W := by kernel_rfl
theorem Av.one (x : Av) : ∀ u ∈ x.cells, u.oneCell' = true := by
  intro u hu
  simp [Av.cells] at hu
  rcases hu with rfl | rfl | rfl | rfl | rfl <;> rfl
end Go.Proofs.Ytfickhhfhdhcbaa.Oct
