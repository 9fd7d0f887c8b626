/-
  Layer 17 (acl): the laws' arguments, with the texts' sizes.
-/
import Derived.Test.YtngkajeghmogmaaView
namespace Go.Proofs.Ytngkajeghmogmaa.Oct
open Go.RowKit Go.ChangeShapes Go.WideShapes Go.ChangeAt Go.Deep

section
variable {H : Type} {enc : TypeId × Value → H} {w : World}
theorem field_strs2 {n : Nat} {v : Value} {x : DataW H × List MemPlace} (h : DataW.trod enc Try.prog w 0 (fun _ => true) true n 23 [v] = some x) (hx : ∀ k ∈ x.1.weights Try.prog 23, k ≤ reachBytes) :
    ∃ a m c l, v = .slice a m c ∧ Strs w a m l ∧ m ≤ 8796093022208 ∧ ∀ t ∈ l, t.size ≤ 140737488355328 := by
  rcases open_slice Try.underlying23 h with ⟨hcs, _⟩ | ⟨ad, len, c, m, k, D, Pl, hcs, _, hl, hm, hmm, hd, hr⟩
  · simp at hcs
    subst hcs
    exact ⟨none, 0, 0, [], rfl, ⟨rfl, fun h => absurd h (by omega)⟩, by omega, by simp⟩
  · simp at hcs
    subst hcs
    have hw : (len + (m - len)) * 16 ∈ x.1.weights Try.prog 23 := by
      rw [hd]
      simp only [DataW.weights, Try.underlying23]
      rw [show Try.prog.bytesOf 9 = 16 by kernel_rfl]
      simp
    have hsz := hx _ hw
    simp only [reachBytes] at hsz
    simp at hmm
    have ce : Try.prog.cellsOf 9 = 1 := by kernel_rfl
    rw [ce] at hr
    have hsp : 0 < len → ad.spot = none := fun hp => by
      obtain ⟨cs, h1, _⟩ := hr 0 (by omega)
      obtain ⟨_, hlen, hcell⟩ := World.cells?_some h1
      have h0 := hcell 0 (by omega)
      rw [List.getElem?_eq_getElem (by omega)] at h0
      have := World.cell?_spot h0
      simpa [Addr.add] using this
    have each : ∀ i, i < len → ∃ x : ByteArray, x.size ≤ 140737488355328 ∧ ∃ b off, ad = ⟨b, off, none⟩ ∧ b < w.heap.size ∧ w.cell? ⟨b, off + i, none⟩ = some (.string x) := by
      intro i hi
      obtain ⟨cs, h1, h2⟩ := hr i (by omega)
      obtain ⟨_, hlen, hcell⟩ := World.cells?_some h1
      obtain ⟨v0, rfl⟩ : ∃ v0, cs = [v0] := by
        rcases cs with _ | ⟨v0, _ | ⟨z, l⟩⟩ <;> simp at hlen
        exact ⟨v0, rfl⟩
      have hmem : ∀ q ∈ (D i, Pl i).1.weights Try.prog 9, q ≤ reachBytes := fun q hq => by
        refine hx q ?_
        rw [hd]
        simp only [DataW.weights, Try.underlying23]
        exact List.mem_cons.2 (.inr (List.mem_append.2 (.inl (mem_weightsAll hq (List.mem_map.2 ⟨i, List.mem_range.2 hi, rfl⟩)))))
      obtain ⟨t, et, bt⟩ := field_str h2 hmem
      subst et
      obtain ⟨b, off, spot⟩ := ad
      have hs := hsp (by omega)
      simp only at hs
      subst hs
      have hc0 := hcell 0 (by omega)
      rw [Addr.add_lit, Addr.add_lit] at hc0
      have hc1 : w.cell? ⟨b, off + i, none⟩ = some (.string t) := by simpa using hc0
      exact ⟨t, bt, b, off, rfl, World.block_lt_of_cell? w _ hc1, hc1⟩
    refine ⟨some ad, len, c, (List.range len).map fun i => if h : i < len then (each i h).choose else default, rfl, ⟨by simp, fun hp => ?_⟩, by omega, ?_⟩
    · obtain ⟨_, _, b, off, e1, e2, _⟩ := each 0 hp
      refine ⟨b, off, by rw [e1], e2, fun i x hx => ?_⟩
      have hlt : i < len := by
        have := (List.getElem?_eq_some_iff.1 hx).1
        simpa using this
      rw [List.getElem?_map, List.getElem?_range hlt, Option.map_some, dif_pos hlt, Option.some.injEq] at hx
      subst hx
      obtain ⟨_, b', off', e3, e4, e5⟩ := (each i hlt).choose_spec
      rw [e1] at e3
      cases e3
      exact e5
    · intro t ht
      obtain ⟨i, hi, rfl⟩ := List.mem_map.1 ht
      have hlt := List.mem_range.1 hi
      rw [dif_pos hlt]
      exact (each i hlt).choose_spec.1
#print axioms field_strs2
/-- the teams' texts are such as memory reaches -/
def Ak.wide (k : Ak) : Prop := k.s.tn ≤ 8796093022208 ∧ ∀ t ∈ k.s.teams, t.size ≤ 140737488355328
theorem view_ask2 {fuel : Nat} {xs : Array Value} {x : DataW H × List MemPlace} (h : DataW.trod enc Try.prog w 0 (fun _ => true) true fuel 27 (Value.agg xs).cells.toList = some x) (hs : xs.size = Try.prog.cellsOf 27) (hw : ∀ n ∈ x.1.weights Try.prog 27, n ≤ reachBytes) :
    ∃ k : Ak, xs = #[.string k.s.user, .slice k.s.ta k.s.tn k.s.tc, iv k.s.role, .string k.ch, .string k.path, iv k.right] ∧ k.at w ∧ k.wide := by
  rw [show Try.prog.cellsOf 27 = 6 by kernel_rfl] at hs
  rw [show (Value.agg xs).cells.toList = xs.toList by simp [Value.cells]] at h
  obtain ⟨v0, v1, v2, v3, v4, v5, hv⟩ := len6 (l := xs.toList) (by simpa using hs)
  rw [hv] at h
  obtain ⟨ys1, k1, hk1, hxy1, _, hxl1, hf1⟩ := DataW.trod_struct Try.underlying27 h
  have hxl1' : ys1.length = 4 := hxl1
  obtain ⟨y1_0, y1_1, y1_2, y1_3, rfl⟩ := len4 hxl1'
  have g1_0 := hf1 0 _ rfl
  change DataW.trod enc Try.prog w 0 _ true k1 25 (([v0, v1, v2, v3, v4, v5].drop 0).take (Try.prog.cellsOf 25)) = some y1_0 at g1_0
  rw [show Try.prog.cellsOf 25 = 3 by kernel_rfl] at g1_0
  simp only [List.drop, List.take] at g1_0
  have w1_0 : ∀ q ∈ y1_0.1.weights Try.prog 25, q ≤ reachBytes := fun q hq => hw q (by
    rw [show x.1 = DataW.agg [y1_0.1, y1_1.1, y1_2.1, y1_3.1] from congrArg Prod.fst hxy1]
    simp only [DataW.weights, Try.underlying27, DataW.weightsEach, List.map, List.mem_append]
    exact .inl hq)
  obtain ⟨ys2, k2, hk2, hxy2, _, hxl2, hf2⟩ := DataW.trod_struct Try.underlying25 g1_0
  have hxl2' : ys2.length = 3 := hxl2
  obtain ⟨y2_0, y2_1, y2_2, rfl⟩ := len3 hxl2'
  have g2_0 := hf2 0 _ rfl
  change DataW.trod enc Try.prog w 0 _ true k2 9 (([v0, v1, v2].drop 0).take (Try.prog.cellsOf 9)) = some y2_0 at g2_0
  rw [show Try.prog.cellsOf 9 = 1 by kernel_rfl] at g2_0
  simp only [List.drop, List.take] at g2_0
  have w2_0 : ∀ q ∈ y2_0.1.weights Try.prog 9, q ≤ reachBytes := fun q hq => w1_0 q (by
    rw [show y1_0.1 = DataW.agg [y2_0.1, y2_1.1, y2_2.1] from congrArg Prod.fst hxy2]
    simp only [DataW.weights, Try.underlying25, DataW.weightsEach, List.map, List.mem_append]
    exact .inl hq)
  have g2_1 := hf2 1 _ rfl
  change DataW.trod enc Try.prog w 0 _ true k2 23 (([v0, v1, v2].drop 1).take (Try.prog.cellsOf 23)) = some y2_1 at g2_1
  rw [show Try.prog.cellsOf 23 = 1 by kernel_rfl] at g2_1
  simp only [List.drop, List.take] at g2_1
  have w2_1 : ∀ q ∈ y2_1.1.weights Try.prog 23, q ≤ reachBytes := fun q hq => w1_0 q (by
    rw [show y1_0.1 = DataW.agg [y2_0.1, y2_1.1, y2_2.1] from congrArg Prod.fst hxy2]
    simp only [DataW.weights, Try.underlying25, DataW.weightsEach, List.map, List.mem_append]
    exact .inr (.inl hq))
  have g2_2 := hf2 2 _ rfl
  change DataW.trod enc Try.prog w 0 _ true k2 3 (([v0, v1, v2].drop 2).take (Try.prog.cellsOf 3)) = some y2_2 at g2_2
  rw [show Try.prog.cellsOf 3 = 1 by kernel_rfl] at g2_2
  simp only [List.drop, List.take] at g2_2
  have w2_2 : ∀ q ∈ y2_2.1.weights Try.prog 3, q ≤ reachBytes := fun q hq => w1_0 q (by
    rw [show y1_0.1 = DataW.agg [y2_0.1, y2_1.1, y2_2.1] from congrArg Prod.fst hxy2]
    simp only [DataW.weights, Try.underlying25, DataW.weightsEach, List.map, List.mem_append]
    exact .inr (.inr (.inl hq)))
  have g1_1 := hf1 1 _ rfl
  change DataW.trod enc Try.prog w 0 _ true k1 9 (([v0, v1, v2, v3, v4, v5].drop 3).take (Try.prog.cellsOf 9)) = some y1_1 at g1_1
  rw [show Try.prog.cellsOf 9 = 1 by kernel_rfl] at g1_1
  simp only [List.drop, List.take] at g1_1
  have w1_1 : ∀ q ∈ y1_1.1.weights Try.prog 9, q ≤ reachBytes := fun q hq => hw q (by
    rw [show x.1 = DataW.agg [y1_0.1, y1_1.1, y1_2.1, y1_3.1] from congrArg Prod.fst hxy1]
    simp only [DataW.weights, Try.underlying27, DataW.weightsEach, List.map, List.mem_append]
    exact .inr (.inl hq))
  have g1_2 := hf1 2 _ rfl
  change DataW.trod enc Try.prog w 0 _ true k1 9 (([v0, v1, v2, v3, v4, v5].drop 4).take (Try.prog.cellsOf 9)) = some y1_2 at g1_2
  rw [show Try.prog.cellsOf 9 = 1 by kernel_rfl] at g1_2
  simp only [List.drop, List.take] at g1_2
  have w1_2 : ∀ q ∈ y1_2.1.weights Try.prog 9, q ≤ reachBytes := fun q hq => hw q (by
    rw [show x.1 = DataW.agg [y1_0.1, y1_1.1, y1_2.1, y1_3.1] from congrArg Prod.fst hxy1]
    simp only [DataW.weights, Try.underlying27, DataW.weightsEach, List.map, List.mem_append]
    exact .inr (.inr (.inl hq)))
  have g1_3 := hf1 3 _ rfl
  change DataW.trod enc Try.prog w 0 _ true k1 3 (([v0, v1, v2, v3, v4, v5].drop 5).take (Try.prog.cellsOf 3)) = some y1_3 at g1_3
  rw [show Try.prog.cellsOf 3 = 1 by kernel_rfl] at g1_3
  simp only [List.drop, List.take] at g1_3
  have w1_3 : ∀ q ∈ y1_3.1.weights Try.prog 3, q ≤ reachBytes := fun q hq => hw q (by
    rw [show x.1 = DataW.agg [y1_0.1, y1_1.1, y1_2.1, y1_3.1] from congrArg Prod.fst hxy1]
    simp only [DataW.weights, Try.underlying27, DataW.weightsEach, List.map, List.mem_append]
    exact .inr (.inr (.inr (.inl hq))))
  obtain ⟨c2_0, ec2_0, bc2_0⟩ := field_str g2_0 w2_0
  subst ec2_0
  obtain ⟨c2_1a, c2_1n, c2_1c, c2_1l, ec2_1, bc2_1⟩   := field_strs2 g2_1 w2_1
  subst ec2_1
  obtain ⟨c2_2, ec2_2, _, fc2_2⟩ := DataW.trod_int Try.underlying3 g2_2
  simp at ec2_2
  subst ec2_2
  have bc2_2 := bounds_i64 fc2_2
  obtain ⟨c1_1, ec1_1, bc1_1⟩ := field_str g1_1 w1_1
  subst ec1_1
  obtain ⟨c1_2, ec1_2, bc1_2⟩ := field_str g1_2 w1_2
  subst ec1_2
  obtain ⟨c1_3, ec1_3, _, fc1_3⟩ := DataW.trod_int Try.underlying3 g1_3
  simp at ec1_3
  subst ec1_3
  have bc1_3 := bounds_i64 fc1_3
  exact ⟨⟨⟨c2_0, c2_1a, c2_1n, c2_1c, c2_2, c2_1l⟩, c1_1, c1_2, c1_3⟩, by rw [← hv], ⟨⟨bc2_1.1, Nat.le_trans bc2_1.2.1 (by decide)⟩, bc1_2, bc1_1, bc2_0⟩, bc2_1.2⟩
#print axioms view_ask2
/-- texts that came in -/
def ArgP (w : World) (a : Option Addr) (len : Nat) (_cap : Nat) (l : List ByteArray) : Prop := Strs w a len l ∧ len ≤ 8796093022208 ∧ ∀ t ∈ l, t.size ≤ 140737488355328
theorem view_paths {fuel : Nat} {a : Option Addr} {len cap : Nat} {x : DataW H × List MemPlace} (h : DataW.trod enc Try.prog w 0 (fun _ => true) true fuel 23 (Value.slice a len cap).cells.toList = some x) (hx : ∀ n ∈ x.1.weights Try.prog 23, n ≤ reachBytes) :
    ∃ l, ArgP w a len cap l := by
  obtain ⟨a', m, c, l, e, h1, h2⟩ := field_strs2 (v := .slice a len cap) (by simpa [Value.cells] using h) hx
  cases e
  exact ⟨l, h1, h2⟩
#print axioms view_paths
end
end Go.Proofs.Ytngkajeghmogmaa.Oct
