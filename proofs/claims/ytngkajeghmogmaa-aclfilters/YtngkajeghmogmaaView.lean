/-
  Layer 17 (acl): the laws' arguments.
-/
import Derived.Test.YtngkajeghmogmaaAsk
import Derived.Deep.Slices
import Derived.ProofKit
import Derived.SizedLaws
import Derived.ChangeSame
import Derived.OpenShut
import Derived.ShutString
import Derived.ChangeOld
namespace Go.Proofs.Ytngkajeghmogmaa.Oct
open Go.RowKit Go.ChangeShapes Go.WideShapes Go.ChangeAt Go.Deep

theorem len3 {α : Type} {l : List α} (h : l.length = 3) : ∃ a0 a1 a2, l = [a0, a1, a2] := by
  rcases l with _ | ⟨a0, _ | ⟨a1, _ | ⟨a2, _ | ⟨z, l⟩⟩⟩⟩ <;> simp at h
  exact ⟨a0, a1, a2, rfl⟩
theorem len4 {α : Type} {l : List α} (h : l.length = 4) : ∃ a0 a1 a2 a3, l = [a0, a1, a2, a3] := by
  rcases l with _ | ⟨a0, _ | ⟨a1, _ | ⟨a2, _ | ⟨a3, _ | ⟨z, l⟩⟩⟩⟩⟩ <;> simp at h
  exact ⟨a0, a1, a2, a3, rfl⟩
theorem len5 {α : Type} {l : List α} (h : l.length = 5) : ∃ a0 a1 a2 a3 a4, l = [a0, a1, a2, a3, a4] := by
  rcases l with _ | ⟨a0, _ | ⟨a1, _ | ⟨a2, _ | ⟨a3, _ | ⟨a4, _ | ⟨z, l⟩⟩⟩⟩⟩⟩ <;> simp at h
  exact ⟨a0, a1, a2, a3, a4, rfl⟩
theorem len6 {α : Type} {l : List α} (h : l.length = 6) : ∃ a0 a1 a2 a3 a4 a5, l = [a0, a1, a2, a3, a4, a5] := by
  rcases l with _ | ⟨a0, _ | ⟨a1, _ | ⟨a2, _ | ⟨a3, _ | ⟨a4, _ | ⟨a5, _ | ⟨z, l⟩⟩⟩⟩⟩⟩⟩ <;> simp at h
  exact ⟨a0, a1, a2, a3, a4, a5, rfl⟩
theorem mem_weightsAll {H : Type} {P : Program} {e : TypeId} {d : DataW H} {n : Nat} (hn : n ∈ d.weights P e) : ∀ {ds : List (DataW H)}, d ∈ ds → n ∈ DataW.weightsAll P e ds
  | [], h => by cases h
  | d0 :: r, h => by
    simp only [DataW.weightsAll, List.mem_append]
    rcases List.mem_cons.1 h with rfl | h
    · exact .inl hn
    · exact .inr (mem_weightsAll hn h)
section
variable {H : Type} {enc : TypeId × Value → H} {w : World}
theorem field_str {n : Nat} {v : Value} {x : DataW H × List MemPlace} (h : DataW.trod enc Try.prog w 0 (fun _ => true) true n 9 [v] = some x) (hx : ∀ k ∈ x.1.weights Try.prog 9, k ≤ reachBytes) :
    ∃ s : ByteArray, v = .string s ∧ s.size ≤ 140737488355328 := by
  obtain ⟨s, hs, hd, _⟩ := DataW.trod_string Try.underlying9 h
  refine ⟨s, by simpa using hs, ?_⟩
  have hmem : s.size ∈ x.1.weights Try.prog 9 := by
    rw [hd]
    simp [DataW.weights]
  have := hx _ hmem
  simp only [reachBytes] at this
  omega
theorem field_strs {n : Nat} {v : Value} {x : DataW H × List MemPlace} (h : DataW.trod enc Try.prog w 0 (fun _ => true) true n 23 [v] = some x) (hx : ∀ k ∈ x.1.weights Try.prog 23, k ≤ reachBytes) :
    ∃ a m c l, v = .slice a m c ∧ Strs w a m l ∧ m ≤ 140737488355328 := by
  rcases open_slice Try.underlying23 h with ⟨hcs, _⟩ | ⟨ad, l, c, m, k, D, Pl, hcs, _, hl, hm, hmm, hd, hr⟩
  · simp at hcs
    subst hcs
    exact ⟨none, 0, 0, [], rfl, ⟨rfl, fun h => absurd h (by omega)⟩, by omega⟩
  · simp at hcs
    subst hcs
    obtain ⟨l2, h2⟩ := view_strs (a := some ad) (len := l) (cap := c) Try.underlying23 Try.underlying9 (by kernel_rfl) (by simpa [Value.cells] using h)
    refine ⟨some ad, l, c, l2, rfl, h2, ?_⟩
    have hw : (l + (m - l)) * 16 ∈ x.1.weights Try.prog 23 := by
      rw [hd]
      simp only [DataW.weights, Try.underlying23]
      rw [show Try.prog.bytesOf 9 = 16 by kernel_rfl]
      simp
    have := hx _ hw
    simp only [reachBytes] at this
    omega
theorem view_rule {fuel : Nat} {xs : Array Value} {x : DataW H × List MemPlace} (h : DataW.trod enc Try.prog w 0 (fun _ => true) true fuel 31 (Value.agg xs).cells.toList = some x) (hs : xs.size = Try.prog.cellsOf 31) (hw : ∀ n ∈ x.1.weights Try.prog 31, n ≤ reachBytes) :
    ∃ r : Ru, xs = #[.string r.who, .string r.ch, .string r.pre, iv r.right, .bool r.deny] ∧ r.short := by
  rw [show Try.prog.cellsOf 31 = 5 by kernel_rfl] at hs
  rw [show (Value.agg xs).cells.toList = xs.toList by simp [Value.cells]] at h
  obtain ⟨v0, v1, v2, v3, v4, hv⟩ := len5 (l := xs.toList) (by simpa using hs)
  rw [hv] at h
  obtain ⟨ys1, k1, hk1, hxy1, _, hxl1, hf1⟩ := DataW.trod_struct Try.underlying31 h
  have hxl1' : ys1.length = 5 := hxl1
  obtain ⟨y1_0, y1_1, y1_2, y1_3, y1_4, rfl⟩ := len5 hxl1'
  have g1_0 := hf1 0 _ rfl
  change DataW.trod enc Try.prog w 0 _ true k1 9 (([v0, v1, v2, v3, v4].drop 0).take (Try.prog.cellsOf 9)) = some y1_0 at g1_0
  rw [show Try.prog.cellsOf 9 = 1 by kernel_rfl] at g1_0
  simp only [List.drop, List.take] at g1_0
  have w1_0 : ∀ q ∈ y1_0.1.weights Try.prog 9, q ≤ reachBytes := fun q hq => hw q (by
    rw [show x.1 = DataW.agg [y1_0.1, y1_1.1, y1_2.1, y1_3.1, y1_4.1] from congrArg Prod.fst hxy1]
    simp only [DataW.weights, Try.underlying31, DataW.weightsEach, List.map, List.mem_append]
    exact .inl hq)
  have g1_1 := hf1 1 _ rfl
  change DataW.trod enc Try.prog w 0 _ true k1 9 (([v0, v1, v2, v3, v4].drop 1).take (Try.prog.cellsOf 9)) = some y1_1 at g1_1
  rw [show Try.prog.cellsOf 9 = 1 by kernel_rfl] at g1_1
  simp only [List.drop, List.take] at g1_1
  have w1_1 : ∀ q ∈ y1_1.1.weights Try.prog 9, q ≤ reachBytes := fun q hq => hw q (by
    rw [show x.1 = DataW.agg [y1_0.1, y1_1.1, y1_2.1, y1_3.1, y1_4.1] from congrArg Prod.fst hxy1]
    simp only [DataW.weights, Try.underlying31, DataW.weightsEach, List.map, List.mem_append]
    exact .inr (.inl hq))
  have g1_2 := hf1 2 _ rfl
  change DataW.trod enc Try.prog w 0 _ true k1 9 (([v0, v1, v2, v3, v4].drop 2).take (Try.prog.cellsOf 9)) = some y1_2 at g1_2
  rw [show Try.prog.cellsOf 9 = 1 by kernel_rfl] at g1_2
  simp only [List.drop, List.take] at g1_2
  have w1_2 : ∀ q ∈ y1_2.1.weights Try.prog 9, q ≤ reachBytes := fun q hq => hw q (by
    rw [show x.1 = DataW.agg [y1_0.1, y1_1.1, y1_2.1, y1_3.1, y1_4.1] from congrArg Prod.fst hxy1]
    simp only [DataW.weights, Try.underlying31, DataW.weightsEach, List.map, List.mem_append]
    exact .inr (.inr (.inl hq)))
  have g1_3 := hf1 3 _ rfl
  change DataW.trod enc Try.prog w 0 _ true k1 3 (([v0, v1, v2, v3, v4].drop 3).take (Try.prog.cellsOf 3)) = some y1_3 at g1_3
  rw [show Try.prog.cellsOf 3 = 1 by kernel_rfl] at g1_3
  simp only [List.drop, List.take] at g1_3
  have w1_3 : ∀ q ∈ y1_3.1.weights Try.prog 3, q ≤ reachBytes := fun q hq => hw q (by
    rw [show x.1 = DataW.agg [y1_0.1, y1_1.1, y1_2.1, y1_3.1, y1_4.1] from congrArg Prod.fst hxy1]
    simp only [DataW.weights, Try.underlying31, DataW.weightsEach, List.map, List.mem_append]
    exact .inr (.inr (.inr (.inl hq))))
  have g1_4 := hf1 4 _ rfl
  change DataW.trod enc Try.prog w 0 _ true k1 4 (([v0, v1, v2, v3, v4].drop 4).take (Try.prog.cellsOf 4)) = some y1_4 at g1_4
  rw [show Try.prog.cellsOf 4 = 1 by kernel_rfl] at g1_4
  simp only [List.drop, List.take] at g1_4
  have w1_4 : ∀ q ∈ y1_4.1.weights Try.prog 4, q ≤ reachBytes := fun q hq => hw q (by
    rw [show x.1 = DataW.agg [y1_0.1, y1_1.1, y1_2.1, y1_3.1, y1_4.1] from congrArg Prod.fst hxy1]
    simp only [DataW.weights, Try.underlying31, DataW.weightsEach, List.map, List.mem_append]
    exact .inr (.inr (.inr (.inr (.inl hq)))))
  obtain ⟨c1_0, ec1_0, bc1_0⟩ := field_str g1_0 w1_0
  subst ec1_0
  obtain ⟨c1_1, ec1_1, bc1_1⟩ := field_str g1_1 w1_1
  subst ec1_1
  obtain ⟨c1_2, ec1_2, bc1_2⟩ := field_str g1_2 w1_2
  subst ec1_2
  obtain ⟨c1_3, ec1_3, _, fc1_3⟩ := DataW.trod_int Try.underlying3 g1_3
  simp at ec1_3
  subst ec1_3
  have bc1_3 := bounds_i64 fc1_3
  obtain ⟨c1_4, ec1_4, _⟩ := DataW.trod_bool Try.underlying4 g1_4
  simp at ec1_4
  subst ec1_4
  exact ⟨⟨c1_0, c1_1, c1_2, c1_3, c1_4⟩, by rw [← hv], bc1_0, bc1_1, bc1_2⟩
theorem view_ask {fuel : Nat} {xs : Array Value} {x : DataW H × List MemPlace} (h : DataW.trod enc Try.prog w 0 (fun _ => true) true fuel 27 (Value.agg xs).cells.toList = some x) (hs : xs.size = Try.prog.cellsOf 27) (hw : ∀ n ∈ x.1.weights Try.prog 27, n ≤ reachBytes) :
    ∃ k : Ak, xs = #[.string k.s.user, .slice k.s.ta k.s.tn k.s.tc, iv k.s.role, .string k.ch, .string k.path, iv k.right] ∧ k.at w := by
  rw [show Try.prog.cellsOf 27 = 6 by kernel_rfl] at hs
  rw [show (Value.agg xs).cells.toList = xs.toList by simp [Value.cells]] at h
  obtain ⟨v0, v1, v2, v3, v4, v5, hv⟩ := len6 (l := xs.toList) (by simpa using hs)
  rw [hv] at h
  obtain ⟨ys1, k1, hk1, hxy1, _, hxl1, hf1⟩ := DataW.trod_struct Try.underlying27 h
  have hxl1' : ys1.length = 4 := hxl1
  obtain ⟨y1_0, y1_1, y1_2, y1_3, rfl⟩ := len4 hxl1'
  have g1_0 := hf1 0 _ rfl
  change DataW.trod enc Try.prog w 0 _ true k1 25 (([v0, v1, v2, v3, v4, v5].drop 0).take (Try.prog.cellsOf 25)) = some y1_0 at g1_0
  rw [show Try.prog.cellsOf 25 = 3 by kernel_rfl] at g1_0
  simp only [List.drop, List.take] at g1_0
  have w1_0 : ∀ q ∈ y1_0.1.weights Try.prog 25, q ≤ reachBytes := fun q hq => hw q (by
    rw [show x.1 = DataW.agg [y1_0.1, y1_1.1, y1_2.1, y1_3.1] from congrArg Prod.fst hxy1]
    simp only [DataW.weights, Try.underlying27, DataW.weightsEach, List.map, List.mem_append]
    exact .inl hq)
  obtain ⟨ys2, k2, hk2, hxy2, _, hxl2, hf2⟩ := DataW.trod_struct Try.underlying25 g1_0
  have hxl2' : ys2.length = 3 := hxl2
  obtain ⟨y2_0, y2_1, y2_2, rfl⟩ := len3 hxl2'
  have g2_0 := hf2 0 _ rfl
  change DataW.trod enc Try.prog w 0 _ true k2 9 (([v0, v1, v2].drop 0).take (Try.prog.cellsOf 9)) = some y2_0 at g2_0
  rw [show Try.prog.cellsOf 9 = 1 by kernel_rfl] at g2_0
  simp only [List.drop, List.take] at g2_0
  have w2_0 : ∀ q ∈ y2_0.1.weights Try.prog 9, q ≤ reachBytes := fun q hq => w1_0 q (by
    rw [show y1_0.1 = DataW.agg [y2_0.1, y2_1.1, y2_2.1] from congrArg Prod.fst hxy2]
    simp only [DataW.weights, Try.underlying25, DataW.weightsEach, List.map, List.mem_append]
    exact .inl hq)
  have g2_1 := hf2 1 _ rfl
  change DataW.trod enc Try.prog w 0 _ true k2 23 (([v0, v1, v2].drop 1).take (Try.prog.cellsOf 23)) = some y2_1 at g2_1
  rw [show Try.prog.cellsOf 23 = 1 by kernel_rfl] at g2_1
  simp only [List.drop, List.take] at g2_1
  have w2_1 : ∀ q ∈ y2_1.1.weights Try.prog 23, q ≤ reachBytes := fun q hq => w1_0 q (by
    rw [show y1_0.1 = DataW.agg [y2_0.1, y2_1.1, y2_2.1] from congrArg Prod.fst hxy2]
    simp only [DataW.weights, Try.underlying25, DataW.weightsEach, List.map, List.mem_append]
    exact .inr (.inl hq))
  have g2_2 := hf2 2 _ rfl
  change DataW.trod enc Try.prog w 0 _ true k2 3 (([v0, v1, v2].drop 2).take (Try.prog.cellsOf 3)) = some y2_2 at g2_2
  rw [show Try.prog.cellsOf 3 = 1 by kernel_rfl] at g2_2
  simp only [List.drop, List.take] at g2_2
  have w2_2 : ∀ q ∈ y2_2.1.weights Try.prog 3, q ≤ reachBytes := fun q hq => w1_0 q (by
    rw [show y1_0.1 = DataW.agg [y2_0.1, y2_1.1, y2_2.1] from congrArg Prod.fst hxy2]
    simp only [DataW.weights, Try.underlying25, DataW.weightsEach, List.map, List.mem_append]
    exact .inr (.inr (.inl hq)))
  have g1_1 := hf1 1 _ rfl
  change DataW.trod enc Try.prog w 0 _ true k1 9 (([v0, v1, v2, v3, v4, v5].drop 3).take (Try.prog.cellsOf 9)) = some y1_1 at g1_1
  rw [show Try.prog.cellsOf 9 = 1 by kernel_rfl] at g1_1
  simp only [List.drop, List.take] at g1_1
  have w1_1 : ∀ q ∈ y1_1.1.weights Try.prog 9, q ≤ reachBytes := fun q hq => hw q (by
    rw [show x.1 = DataW.agg [y1_0.1, y1_1.1, y1_2.1, y1_3.1] from congrArg Prod.fst hxy1]
    simp only [DataW.weights, Try.underlying27, DataW.weightsEach, List.map, List.mem_append]
    exact .inr (.inl hq))
  have g1_2 := hf1 2 _ rfl
  change DataW.trod enc Try.prog w 0 _ true k1 9 (([v0, v1, v2, v3, v4, v5].drop 4).take (Try.prog.cellsOf 9)) = some y1_2 at g1_2
  rw [show Try.prog.cellsOf 9 = 1 by kernel_rfl] at g1_2
  simp only [List.drop, List.take] at g1_2
  have w1_2 : ∀ q ∈ y1_2.1.weights Try.prog 9, q ≤ reachBytes := fun q hq => hw q (by
    rw [show x.1 = DataW.agg [y1_0.1, y1_1.1, y1_2.1, y1_3.1] from congrArg Prod.fst hxy1]
    simp only [DataW.weights, Try.underlying27, DataW.weightsEach, List.map, List.mem_append]
    exact .inr (.inr (.inl hq)))
  have g1_3 := hf1 3 _ rfl
  change DataW.trod enc Try.prog w 0 _ true k1 3 (([v0, v1, v2, v3, v4, v5].drop 5).take (Try.prog.cellsOf 3)) = some y1_3 at g1_3
  rw [show Try.prog.cellsOf 3 = 1 by kernel_rfl] at g1_3
  simp only [List.drop, List.take] at g1_3
  have w1_3 : ∀ q ∈ y1_3.1.weights Try.prog 3, q ≤ reachBytes := fun q hq => hw q (by
    rw [show x.1 = DataW.agg [y1_0.1, y1_1.1, y1_2.1, y1_3.1] from congrArg Prod.fst hxy1]
    simp only [DataW.weights, Try.underlying27, DataW.weightsEach, List.map, List.mem_append]
    exact .inr (.inr (.inr (.inl hq))))
  obtain ⟨c2_0, ec2_0, bc2_0⟩ := field_str g2_0 w2_0
  subst ec2_0
  obtain ⟨c2_1a, c2_1n, c2_1c, c2_1l, ec2_1, bc2_1⟩ := field_strs g2_1 w2_1
  subst ec2_1
  obtain ⟨c2_2, ec2_2, _, fc2_2⟩ := DataW.trod_int Try.underlying3 g2_2
  simp at ec2_2
  subst ec2_2
  have bc2_2 := bounds_i64 fc2_2
  obtain ⟨c1_1, ec1_1, bc1_1⟩ := field_str g1_1 w1_1
  subst ec1_1
  obtain ⟨c1_2, ec1_2, bc1_2⟩ := field_str g1_2 w1_2
  subst ec1_2
  obtain ⟨c1_3, ec1_3, _, fc1_3⟩ := DataW.trod_int Try.underlying3 g1_3
  simp at ec1_3
  subst ec1_3
  have bc1_3 := bounds_i64 fc1_3
  exact ⟨⟨⟨c2_0, c2_1a, c2_1n, c2_1c, c2_2, c2_1l⟩, c1_1, c1_2, c1_3⟩, by rw [← hv], ⟨bc2_1.1, bc2_1.2⟩, bc1_2, bc1_1, bc2_0⟩
/-- rules that came in -/
def ArgR (w : World) (a : Option Addr) (len : Nat) (_cap : Nat) (l : List Ru) : Prop := RuS w a len l ∧ len + 1 ≤ 2199023255551
instance : Inhabited Ru := ⟨⟨⟨#[]⟩, ⟨#[]⟩, ⟨#[]⟩, 0, false⟩⟩
theorem view_rules {fuel : Nat} {a : Option Addr} {len cap : Nat} {x : DataW H × List MemPlace} (h : DataW.trod enc Try.prog w 0 (fun _ => true) true fuel 22 (Value.slice a len cap).cells.toList = some x) (hx : ∀ n ∈ x.1.weights Try.prog 22, n ≤ reachBytes) :
    ∃ l, ArgR w a len cap l := by
  rcases open_slice Try.underlying22 h with ⟨hcs, _⟩ | ⟨ad, l, c, m, n, D, Pl, hcs, _, hl, hm, hmm, hd, hr⟩
  · simp [Value.cells] at hcs
    obtain ⟨rfl, rfl, rfl⟩ := hcs
    exact ⟨[], ⟨rfl, by simp, fun h => absurd h (by omega)⟩, by omega⟩
  · simp [Value.cells] at hcs
    obtain ⟨rfl, rfl, rfl⟩ := hcs
    have hw : (len + (m - len)) * 64 ∈ x.1.weights Try.prog 22 := by
      rw [hd]
      simp only [DataW.weights, Try.underlying22]
      rw [show Try.prog.bytesOf 31 = 64 by kernel_rfl]
      simp
    have hsz := hx _ hw
    simp only [reachBytes] at hsz
    simp at hmm
    have ce : Try.prog.cellsOf 31 = 5 := by kernel_rfl
    rw [ce] at hr
    have hsp : 0 < len → ad.spot = none := fun hp => by
      obtain ⟨cs, h1, _⟩ := hr 0 (by omega)
      obtain ⟨_, hlen, hcell⟩ := World.cells?_some h1
      have h0 := hcell 0 (by omega)
      rw [List.getElem?_eq_getElem (by omega)] at h0
      have := World.cell?_spot h0
      simpa [Addr.add] using this
    have each : ∀ i, i < len → ∃ x : Ru, x.short ∧ ∃ b off, ad = ⟨b, off, none⟩ ∧ b < w.heap.size ∧ w.rangeAt b (off + i * 5) x.cells := by
      intro i hi
      obtain ⟨cs, h1, h2⟩ := hr i (by omega)
      obtain ⟨_, hlen, hcell⟩ := World.cells?_some h1
      obtain ⟨v0, v1, v2, v3, v4, rfl⟩ := len5 hlen
      have hmem : ∀ q ∈ (D i, Pl i).1.weights Try.prog 31, q ≤ reachBytes := fun q hq => by
        refine hx q ?_
        rw [hd]
        simp only [DataW.weights, Try.underlying22]
        exact List.mem_cons.2 (.inr (List.mem_append.2 (.inl (mem_weightsAll hq (List.mem_map.2 ⟨i, List.mem_range.2 hi, rfl⟩)))))
      obtain ⟨ys1, k1, hk1, hxy1, _, hxl1, hf1⟩ := DataW.trod_struct Try.underlying31 h2
      have hxl1' : ys1.length = 5 := hxl1
      obtain ⟨y1_0, y1_1, y1_2, y1_3, y1_4, rfl⟩ := len5 hxl1'
      have g1_0 := hf1 0 _ rfl
      change DataW.trod enc Try.prog w 0 _ true k1 9 (([v0, v1, v2, v3, v4].drop 0).take (Try.prog.cellsOf 9)) = some y1_0 at g1_0
      rw [show Try.prog.cellsOf 9 = 1 by kernel_rfl] at g1_0
      simp only [List.drop, List.take] at g1_0
      have w1_0 : ∀ q ∈ y1_0.1.weights Try.prog 9, q ≤ reachBytes := fun q hq => hmem q (by
        rw [show (D i, Pl i).1 = DataW.agg [y1_0.1, y1_1.1, y1_2.1, y1_3.1, y1_4.1] from congrArg Prod.fst hxy1]
        simp only [DataW.weights, Try.underlying31, DataW.weightsEach, List.map, List.mem_append]
        exact .inl hq)
      have g1_1 := hf1 1 _ rfl
      change DataW.trod enc Try.prog w 0 _ true k1 9 (([v0, v1, v2, v3, v4].drop 1).take (Try.prog.cellsOf 9)) = some y1_1 at g1_1
      rw [show Try.prog.cellsOf 9 = 1 by kernel_rfl] at g1_1
      simp only [List.drop, List.take] at g1_1
      have w1_1 : ∀ q ∈ y1_1.1.weights Try.prog 9, q ≤ reachBytes := fun q hq => hmem q (by
        rw [show (D i, Pl i).1 = DataW.agg [y1_0.1, y1_1.1, y1_2.1, y1_3.1, y1_4.1] from congrArg Prod.fst hxy1]
        simp only [DataW.weights, Try.underlying31, DataW.weightsEach, List.map, List.mem_append]
        exact .inr (.inl hq))
      have g1_2 := hf1 2 _ rfl
      change DataW.trod enc Try.prog w 0 _ true k1 9 (([v0, v1, v2, v3, v4].drop 2).take (Try.prog.cellsOf 9)) = some y1_2 at g1_2
      rw [show Try.prog.cellsOf 9 = 1 by kernel_rfl] at g1_2
      simp only [List.drop, List.take] at g1_2
      have w1_2 : ∀ q ∈ y1_2.1.weights Try.prog 9, q ≤ reachBytes := fun q hq => hmem q (by
        rw [show (D i, Pl i).1 = DataW.agg [y1_0.1, y1_1.1, y1_2.1, y1_3.1, y1_4.1] from congrArg Prod.fst hxy1]
        simp only [DataW.weights, Try.underlying31, DataW.weightsEach, List.map, List.mem_append]
        exact .inr (.inr (.inl hq)))
      have g1_3 := hf1 3 _ rfl
      change DataW.trod enc Try.prog w 0 _ true k1 3 (([v0, v1, v2, v3, v4].drop 3).take (Try.prog.cellsOf 3)) = some y1_3 at g1_3
      rw [show Try.prog.cellsOf 3 = 1 by kernel_rfl] at g1_3
      simp only [List.drop, List.take] at g1_3
      have w1_3 : ∀ q ∈ y1_3.1.weights Try.prog 3, q ≤ reachBytes := fun q hq => hmem q (by
        rw [show (D i, Pl i).1 = DataW.agg [y1_0.1, y1_1.1, y1_2.1, y1_3.1, y1_4.1] from congrArg Prod.fst hxy1]
        simp only [DataW.weights, Try.underlying31, DataW.weightsEach, List.map, List.mem_append]
        exact .inr (.inr (.inr (.inl hq))))
      have g1_4 := hf1 4 _ rfl
      change DataW.trod enc Try.prog w 0 _ true k1 4 (([v0, v1, v2, v3, v4].drop 4).take (Try.prog.cellsOf 4)) = some y1_4 at g1_4
      rw [show Try.prog.cellsOf 4 = 1 by kernel_rfl] at g1_4
      simp only [List.drop, List.take] at g1_4
      have w1_4 : ∀ q ∈ y1_4.1.weights Try.prog 4, q ≤ reachBytes := fun q hq => hmem q (by
        rw [show (D i, Pl i).1 = DataW.agg [y1_0.1, y1_1.1, y1_2.1, y1_3.1, y1_4.1] from congrArg Prod.fst hxy1]
        simp only [DataW.weights, Try.underlying31, DataW.weightsEach, List.map, List.mem_append]
        exact .inr (.inr (.inr (.inr (.inl hq)))))
      obtain ⟨c1_0, ec1_0, bc1_0⟩ := field_str g1_0 w1_0
      subst ec1_0
      obtain ⟨c1_1, ec1_1, bc1_1⟩ := field_str g1_1 w1_1
      subst ec1_1
      obtain ⟨c1_2, ec1_2, bc1_2⟩ := field_str g1_2 w1_2
      subst ec1_2
      obtain ⟨c1_3, ec1_3, _, fc1_3⟩ := DataW.trod_int Try.underlying3 g1_3
      simp at ec1_3
      subst ec1_3
      have bc1_3 := bounds_i64 fc1_3
      obtain ⟨c1_4, ec1_4, _⟩ := DataW.trod_bool Try.underlying4 g1_4
      simp at ec1_4
      subst ec1_4
      obtain ⟨b, off, spot⟩ := ad
      have hs := hsp (by omega)
      simp only at hs
      subst hs
      have hc0 := hcell 0 (by omega)
      rw [Addr.add_lit, Addr.add_lit] at hc0
      refine ⟨⟨c1_0, c1_1, c1_2, c1_3, c1_4⟩, ⟨bc1_0, bc1_1, bc1_2⟩, b, off, rfl, ?_, ?_⟩
      · have := World.block_lt_of_cell? w _ hc0
        simpa using this
      · intro j v hj
        have hj5 : j < 5 := (List.getElem?_eq_some_iff.1 hj).1
        have := hcell j (by omega)
        rw [Addr.add_lit, Addr.add_lit] at this
        rw [← hj]
        exact this
    refine ⟨(List.range len).map fun i => if h : i < len then (each i h).choose else default, ⟨by simp, ?_, fun hp => ?_⟩, by omega⟩
    · intro r hr
      obtain ⟨i, hi, rfl⟩ := List.mem_map.1 hr
      have hlt := List.mem_range.1 hi
      rw [dif_pos hlt]
      exact (each i hlt).choose_spec.1
    obtain ⟨_, _, b, off, e1, e2, _⟩ := each 0 hp
    refine ⟨b, off, by rw [e1], e2, fun i x hx => ?_⟩
    have hlt : i < len := by
      have := (List.getElem?_eq_some_iff.1 hx).1
      simpa using this
    have e : (each i hlt).choose = x := by simpa [List.getElem?_map, List.getElem?_range hlt, hlt] using hx
    obtain ⟨_, b', off', e3, _, e5⟩ := (each i hlt).choose_spec
    rw [e1] at e3
    cases e3
    rw [e] at e5
    exact e5
end
#print axioms view_ask
#print axioms view_rules
end Go.Proofs.Ytngkajeghmogmaa.Oct
