/-
  Layer 21 (queue): a call among the laws' arguments.
-/
import Derived.Test.YtipipckbcelphaaWViw
namespace Go.Proofs.Ytipipckbcelphaa.Oct
open Go.RowKit Go.ChangeShapes Go.WideShapes Go.ChangeAt Go.Deep

theorem len4 {α : Type} {l : List α} (h : l.length = 4) : ∃ a0 a1 a2 a3, l = [a0, a1, a2, a3] := by
  rcases l with _ | ⟨a0, _ | ⟨a1, _ | ⟨a2, _ | ⟨a3, _ | ⟨z, l⟩⟩⟩⟩⟩ <;> simp at h
  exact ⟨a0, a1, a2, a3, rfl⟩
section
variable {H : Type} {enc : TypeId × Value → H} {w : World}
theorem field_strs {n : Nat} {v : Value} {x : DataW H × List MemPlace} (h : DataW.trod enc Try.prog w 0 (fun _ => true) true n 27 [v] = some x) (hx : ∀ k ∈ x.1.weights Try.prog 27, k ≤ reachBytes) :
    ∃ a m c l, v = .slice a m c ∧ ArgN w a m c l ∧ m ≤ 17592186044416 := by
  rcases open_slice Try.underlying27 h with ⟨hcs, _⟩ | ⟨ad, l, c, m, k, D, Pl, hcs, _, hl, hm, hmm, hd, hr⟩
  · simp at hcs
    subst hcs
    exact ⟨none, 0, 0, [], rfl, ⟨rfl, Nat.le_refl _, by unfold maxLen; omega, by simp, fun h => absurd h (by omega)⟩, by omega⟩
  · simp at hcs
    subst hcs
    obtain ⟨l2, h2⟩ := view_ints (a := some ad) (len := l) (cap := c) (by simpa [Value.cells] using h) hx
    refine ⟨some ad, l, c, l2, rfl, h2, ?_⟩
    have hw : (l + (m - l)) * 8 ∈ x.1.weights Try.prog 27 := by
      rw [hd]
      simp only [DataW.weights, Try.underlying27]
      rw [show Try.prog.bytesOf 3 = 8 by kernel_rfl]
      simp
    have := hx _ hw
    simp only [reachBytes] at this
    omega
/-- a call, told -/
structure Av where
  kind : Int
  id : Int
  ans : Int
  sa : Option Addr
  sn : Nat
  sc : Nat
  l : List Int
def Av.cells (x : Av) : List Value := [iv x.kind, iv x.id, iv x.ans, .slice x.sa x.sn x.sc]
def Av.ok (w : World) (x : Av) : Prop := I64 x.kind ∧ I64 x.id ∧ I64 x.ans ∧ ArgN w x.sa x.sn x.sc x.l ∧ x.sn ≤ 17592186044416
theorem view_act {fuel : Nat} {xs : Array Value} {x : DataW H × List MemPlace} (h : DataW.trod enc Try.prog w 0 (fun _ => true) true fuel 32 (Value.agg xs).cells.toList = some x) (hs : xs.size = Try.prog.cellsOf 32) (hw : ∀ n ∈ x.1.weights Try.prog 32, n ≤ reachBytes) :
    ∃ y : Av, xs = #[iv y.kind, iv y.id, iv y.ans, .slice y.sa y.sn y.sc] ∧ y.ok w := by
  rw [show Try.prog.cellsOf 32 = 4 by kernel_rfl] at hs
  rw [show (Value.agg xs).cells.toList = xs.toList by simp [Value.cells]] at h
  obtain ⟨v0, v1, v2, v3, hv⟩ := len4 (l := xs.toList) (by simpa using hs)
  rw [hv] at h
  obtain ⟨ys1, k1, hk1, hxy1, _, hxl1, hf1⟩ := DataW.trod_struct Try.underlying32 h
  have hxl1' : ys1.length = 4 := hxl1
  obtain ⟨y1_0, y1_1, y1_2, y1_3, rfl⟩ := len4 hxl1'
  have g1_0 := hf1 0 _ rfl
  change DataW.trod enc Try.prog w 0 _ true k1 3 (([v0, v1, v2, v3].drop 0).take (Try.prog.cellsOf 3)) = some y1_0 at g1_0
  rw [show Try.prog.cellsOf 3 = 1 by kernel_rfl] at g1_0
  simp only [List.drop, List.take] at g1_0
  have w1_0 : ∀ q ∈ y1_0.1.weights Try.prog 3, q ≤ reachBytes := fun q hq => hw q (by
    rw [show x.1 = DataW.agg [y1_0.1, y1_1.1, y1_2.1, y1_3.1] from congrArg Prod.fst hxy1]
    simp only [DataW.weights, Try.underlying32, DataW.weightsEach, List.map, List.mem_append]
    exact .inl hq)
  have g1_1 := hf1 1 _ rfl
  change DataW.trod enc Try.prog w 0 _ true k1 3 (([v0, v1, v2, v3].drop 1).take (Try.prog.cellsOf 3)) = some y1_1 at g1_1
  rw [show Try.prog.cellsOf 3 = 1 by kernel_rfl] at g1_1
  simp only [List.drop, List.take] at g1_1
  have w1_1 : ∀ q ∈ y1_1.1.weights Try.prog 3, q ≤ reachBytes := fun q hq => hw q (by
    rw [show x.1 = DataW.agg [y1_0.1, y1_1.1, y1_2.1, y1_3.1] from congrArg Prod.fst hxy1]
    simp only [DataW.weights, Try.underlying32, DataW.weightsEach, List.map, List.mem_append]
    exact .inr (.inl hq))
  have g1_2 := hf1 2 _ rfl
  change DataW.trod enc Try.prog w 0 _ true k1 3 (([v0, v1, v2, v3].drop 2).take (Try.prog.cellsOf 3)) = some y1_2 at g1_2
  rw [show Try.prog.cellsOf 3 = 1 by kernel_rfl] at g1_2
  simp only [List.drop, List.take] at g1_2
  have w1_2 : ∀ q ∈ y1_2.1.weights Try.prog 3, q ≤ reachBytes := fun q hq => hw q (by
    rw [show x.1 = DataW.agg [y1_0.1, y1_1.1, y1_2.1, y1_3.1] from congrArg Prod.fst hxy1]
    simp only [DataW.weights, Try.underlying32, DataW.weightsEach, List.map, List.mem_append]
    exact .inr (.inr (.inl hq)))
  have g1_3 := hf1 3 _ rfl
  change DataW.trod enc Try.prog w 0 _ true k1 27 (([v0, v1, v2, v3].drop 3).take (Try.prog.cellsOf 27)) = some y1_3 at g1_3
  rw [show Try.prog.cellsOf 27 = 1 by kernel_rfl] at g1_3
  simp only [List.drop, List.take] at g1_3
  have w1_3 : ∀ q ∈ y1_3.1.weights Try.prog 27, q ≤ reachBytes := fun q hq => hw q (by
    rw [show x.1 = DataW.agg [y1_0.1, y1_1.1, y1_2.1, y1_3.1] from congrArg Prod.fst hxy1]
    simp only [DataW.weights, Try.underlying32, DataW.weightsEach, List.map, List.mem_append]
    exact .inr (.inr (.inr (.inl hq))))
  obtain ⟨c1_0, ec1_0, _, fc1_0⟩ := DataW.trod_int Try.underlying3 g1_0
  simp at ec1_0
  subst ec1_0
  have bc1_0 := bounds_i64 fc1_0
  obtain ⟨c1_1, ec1_1, _, fc1_1⟩ := DataW.trod_int Try.underlying3 g1_1
  simp at ec1_1
  subst ec1_1
  have bc1_1 := bounds_i64 fc1_1
  obtain ⟨c1_2, ec1_2, _, fc1_2⟩ := DataW.trod_int Try.underlying3 g1_2
  simp at ec1_2
  subst ec1_2
  have bc1_2 := bounds_i64 fc1_2
  obtain ⟨c1_3a, c1_3n, c1_3c, c1_3l, ec1_3, bc1_3⟩ := field_strs g1_3 w1_3
  subst ec1_3
  exact ⟨⟨c1_0, c1_1, c1_2, c1_3a, c1_3n, c1_3c, c1_3l⟩, by rw [← hv], bc1_0, bc1_1, bc1_2, bc1_3⟩
end
#print axioms view_act
end Go.Proofs.Ytipipckbcelphaa.Oct
