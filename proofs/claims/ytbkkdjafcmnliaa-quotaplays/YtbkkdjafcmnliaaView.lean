/-
  Layer 18 (quota): the laws' arguments.
-/
import Derived.Test.YtbkkdjafcmnliaaBack
import Derived.Deep.Slices
import Derived.ProofKit
import Derived.SizedLaws
import Derived.ChangeSame
import Derived.OpenShut
import Derived.ShutString
import Derived.ChangeOld
namespace Go.Proofs.Ytbkkdjafcmnliaa.Oct
open Go.RowKit Go.ChangeShapes Go.WideShapes Go.ChangeAt Go.Deep

theorem len3 {α : Type} {l : List α} (h : l.length = 3) : ∃ a0 a1 a2, l = [a0, a1, a2] := by
  rcases l with _ | ⟨a0, _ | ⟨a1, _ | ⟨a2, _ | ⟨z, l⟩⟩⟩⟩ <;> simp at h
  exact ⟨a0, a1, a2, rfl⟩
theorem len5 {α : Type} {l : List α} (h : l.length = 5) : ∃ a0 a1 a2 a3 a4, l = [a0, a1, a2, a3, a4] := by
  rcases l with _ | ⟨a0, _ | ⟨a1, _ | ⟨a2, _ | ⟨a3, _ | ⟨a4, _ | ⟨z, l⟩⟩⟩⟩⟩⟩ <;> simp at h
  exact ⟨a0, a1, a2, a3, a4, rfl⟩
theorem mem_weightsAll {H : Type} {P : Program} {e : TypeId} {d : DataW H} {n : Nat} (hn : n ∈ d.weights P e) : ∀ {ds : List (DataW H)}, d ∈ ds → n ∈ DataW.weightsAll P e ds
  | [], h => by cases h
  | d0 :: r, h => by
    simp only [DataW.weightsAll, List.mem_append]
    rcases List.mem_cons.1 h with rfl | h
    · exact .inl hn
    · exact .inr (mem_weightsAll hn h)
abbrev I64 (n : Int) : Prop := -9223372036854775808 ≤ n ∧ n ≤ 9223372036854775807
section
variable {H : Type} {enc : TypeId × Value → H} {w : World}
theorem view_lim {fuel : Nat} {xs : Array Value} {x : DataW H × List MemPlace} (h : DataW.trod enc Try.prog w 0 (fun _ => true) true fuel 23 (Value.agg xs).cells.toList = some x) (hs : xs.size = Try.prog.cellsOf 23) (hw : ∀ n ∈ x.1.weights Try.prog 23, n ≤ reachBytes) :
    ∃ b r n : Int, xs = #[iv b, iv r, iv n] ∧ I64 b ∧ I64 r ∧ I64 n := by
  rw [show Try.prog.cellsOf 23 = 3 by kernel_rfl] at hs
  rw [show (Value.agg xs).cells.toList = xs.toList by simp [Value.cells]] at h
  obtain ⟨v0, v1, v2, hv⟩ := len3 (l := xs.toList) (by simpa using hs)
  rw [hv] at h
  obtain ⟨ys1, k1, hk1, hxy1, _, hxl1, hf1⟩ := DataW.trod_struct Try.underlying23 h
  have hxl1' : ys1.length = 3 := hxl1
  obtain ⟨y1_0, y1_1, y1_2, rfl⟩ := len3 hxl1'
  have g1_0 := hf1 0 _ rfl
  change DataW.trod enc Try.prog w 0 _ true k1 3 (([v0, v1, v2].drop 0).take (Try.prog.cellsOf 3)) = some y1_0 at g1_0
  rw [show Try.prog.cellsOf 3 = 1 by kernel_rfl] at g1_0
  simp only [List.drop, List.take] at g1_0
  have w1_0 : ∀ q ∈ y1_0.1.weights Try.prog 3, q ≤ reachBytes := fun q hq => hw q (by
    rw [show x.1 = DataW.agg [y1_0.1, y1_1.1, y1_2.1] from congrArg Prod.fst hxy1]
    simp only [DataW.weights, Try.underlying23, DataW.weightsEach, List.map, List.mem_append]
    exact .inl hq)
  have g1_1 := hf1 1 _ rfl
  change DataW.trod enc Try.prog w 0 _ true k1 3 (([v0, v1, v2].drop 1).take (Try.prog.cellsOf 3)) = some y1_1 at g1_1
  rw [show Try.prog.cellsOf 3 = 1 by kernel_rfl] at g1_1
  simp only [List.drop, List.take] at g1_1
  have w1_1 : ∀ q ∈ y1_1.1.weights Try.prog 3, q ≤ reachBytes := fun q hq => hw q (by
    rw [show x.1 = DataW.agg [y1_0.1, y1_1.1, y1_2.1] from congrArg Prod.fst hxy1]
    simp only [DataW.weights, Try.underlying23, DataW.weightsEach, List.map, List.mem_append]
    exact .inr (.inl hq))
  have g1_2 := hf1 2 _ rfl
  change DataW.trod enc Try.prog w 0 _ true k1 3 (([v0, v1, v2].drop 2).take (Try.prog.cellsOf 3)) = some y1_2 at g1_2
  rw [show Try.prog.cellsOf 3 = 1 by kernel_rfl] at g1_2
  simp only [List.drop, List.take] at g1_2
  have w1_2 : ∀ q ∈ y1_2.1.weights Try.prog 3, q ≤ reachBytes := fun q hq => hw q (by
    rw [show x.1 = DataW.agg [y1_0.1, y1_1.1, y1_2.1] from congrArg Prod.fst hxy1]
    simp only [DataW.weights, Try.underlying23, DataW.weightsEach, List.map, List.mem_append]
    exact .inr (.inr (.inl hq)))
  obtain ⟨c1_0, ec1_0, _, fc1_0⟩ := DataW.trod_int Try.underlying3 g1_0
  simp at ec1_0
  subst ec1_0
  have bc1_0 := bounds_i64 fc1_0
  obtain ⟨c1_1, ec1_1, _, fc1_1⟩ := DataW.trod_int Try.underlying3 g1_1
  simp at ec1_1
  subst ec1_1
  have bc1_1 := bounds_i64 fc1_1
  obtain ⟨c1_2, ec1_2, _, fc1_2⟩ := DataW.trod_int Try.underlying3 g1_2
  simp at ec1_2
  subst ec1_2
  have bc1_2 := bounds_i64 fc1_2
  exact ⟨c1_0, c1_1, c1_2, by rw [← hv], bc1_0, bc1_1, bc1_2⟩
theorem view_act {fuel : Nat} {xs : Array Value} {x : DataW H × List MemPlace} (h : DataW.trod enc Try.prog w 0 (fun _ => true) true fuel 36 (Value.agg xs).cells.toList = some x) (hs : xs.size = Try.prog.cellsOf 36) (hw : ∀ n ∈ x.1.weights Try.prog 36, n ≤ reachBytes) :
    ∃ k x b r n : Int, xs = #[iv k, iv x, iv b, iv r, iv n] ∧ I64 k ∧ I64 x ∧ I64 b ∧ I64 r ∧ I64 n := by
  rw [show Try.prog.cellsOf 36 = 5 by kernel_rfl] at hs
  rw [show (Value.agg xs).cells.toList = xs.toList by simp [Value.cells]] at h
  obtain ⟨v0, v1, v2, v3, v4, hv⟩ := len5 (l := xs.toList) (by simpa using hs)
  rw [hv] at h
  obtain ⟨ys1, k1, hk1, hxy1, _, hxl1, hf1⟩ := DataW.trod_struct Try.underlying36 h
  have hxl1' : ys1.length = 3 := hxl1
  obtain ⟨y1_0, y1_1, y1_2, rfl⟩ := len3 hxl1'
  have g1_0 := hf1 0 _ rfl
  change DataW.trod enc Try.prog w 0 _ true k1 3 (([v0, v1, v2, v3, v4].drop 0).take (Try.prog.cellsOf 3)) = some y1_0 at g1_0
  rw [show Try.prog.cellsOf 3 = 1 by kernel_rfl] at g1_0
  simp only [List.drop, List.take] at g1_0
  have w1_0 : ∀ q ∈ y1_0.1.weights Try.prog 3, q ≤ reachBytes := fun q hq => hw q (by
    rw [show x.1 = DataW.agg [y1_0.1, y1_1.1, y1_2.1] from congrArg Prod.fst hxy1]
    simp only [DataW.weights, Try.underlying36, DataW.weightsEach, List.map, List.mem_append]
    exact .inl hq)
  have g1_1 := hf1 1 _ rfl
  change DataW.trod enc Try.prog w 0 _ true k1 3 (([v0, v1, v2, v3, v4].drop 1).take (Try.prog.cellsOf 3)) = some y1_1 at g1_1
  rw [show Try.prog.cellsOf 3 = 1 by kernel_rfl] at g1_1
  simp only [List.drop, List.take] at g1_1
  have w1_1 : ∀ q ∈ y1_1.1.weights Try.prog 3, q ≤ reachBytes := fun q hq => hw q (by
    rw [show x.1 = DataW.agg [y1_0.1, y1_1.1, y1_2.1] from congrArg Prod.fst hxy1]
    simp only [DataW.weights, Try.underlying36, DataW.weightsEach, List.map, List.mem_append]
    exact .inr (.inl hq))
  have g1_2 := hf1 2 _ rfl
  change DataW.trod enc Try.prog w 0 _ true k1 23 (([v0, v1, v2, v3, v4].drop 2).take (Try.prog.cellsOf 23)) = some y1_2 at g1_2
  rw [show Try.prog.cellsOf 23 = 3 by kernel_rfl] at g1_2
  simp only [List.drop, List.take] at g1_2
  have w1_2 : ∀ q ∈ y1_2.1.weights Try.prog 23, q ≤ reachBytes := fun q hq => hw q (by
    rw [show x.1 = DataW.agg [y1_0.1, y1_1.1, y1_2.1] from congrArg Prod.fst hxy1]
    simp only [DataW.weights, Try.underlying36, DataW.weightsEach, List.map, List.mem_append]
    exact .inr (.inr (.inl hq)))
  obtain ⟨ys2, k2, hk2, hxy2, _, hxl2, hf2⟩ := DataW.trod_struct Try.underlying23 g1_2
  have hxl2' : ys2.length = 3 := hxl2
  obtain ⟨y2_0, y2_1, y2_2, rfl⟩ := len3 hxl2'
  have g2_0 := hf2 0 _ rfl
  change DataW.trod enc Try.prog w 0 _ true k2 3 (([v2, v3, v4].drop 0).take (Try.prog.cellsOf 3)) = some y2_0 at g2_0
  rw [show Try.prog.cellsOf 3 = 1 by kernel_rfl] at g2_0
  simp only [List.drop, List.take] at g2_0
  have w2_0 : ∀ q ∈ y2_0.1.weights Try.prog 3, q ≤ reachBytes := fun q hq => w1_2 q (by
    rw [show y1_2.1 = DataW.agg [y2_0.1, y2_1.1, y2_2.1] from congrArg Prod.fst hxy2]
    simp only [DataW.weights, Try.underlying23, DataW.weightsEach, List.map, List.mem_append]
    exact .inl hq)
  have g2_1 := hf2 1 _ rfl
  change DataW.trod enc Try.prog w 0 _ true k2 3 (([v2, v3, v4].drop 1).take (Try.prog.cellsOf 3)) = some y2_1 at g2_1
  rw [show Try.prog.cellsOf 3 = 1 by kernel_rfl] at g2_1
  simp only [List.drop, List.take] at g2_1
  have w2_1 : ∀ q ∈ y2_1.1.weights Try.prog 3, q ≤ reachBytes := fun q hq => w1_2 q (by
    rw [show y1_2.1 = DataW.agg [y2_0.1, y2_1.1, y2_2.1] from congrArg Prod.fst hxy2]
    simp only [DataW.weights, Try.underlying23, DataW.weightsEach, List.map, List.mem_append]
    exact .inr (.inl hq))
  have g2_2 := hf2 2 _ rfl
  change DataW.trod enc Try.prog w 0 _ true k2 3 (([v2, v3, v4].drop 2).take (Try.prog.cellsOf 3)) = some y2_2 at g2_2
  rw [show Try.prog.cellsOf 3 = 1 by kernel_rfl] at g2_2
  simp only [List.drop, List.take] at g2_2
  have w2_2 : ∀ q ∈ y2_2.1.weights Try.prog 3, q ≤ reachBytes := fun q hq => w1_2 q (by
    rw [show y1_2.1 = DataW.agg [y2_0.1, y2_1.1, y2_2.1] from congrArg Prod.fst hxy2]
    simp only [DataW.weights, Try.underlying23, DataW.weightsEach, List.map, List.mem_append]
    exact .inr (.inr (.inl hq)))
  obtain ⟨c1_0, ec1_0, _, fc1_0⟩ := DataW.trod_int Try.underlying3 g1_0
  simp at ec1_0
  subst ec1_0
  have bc1_0 := bounds_i64 fc1_0
  obtain ⟨c1_1, ec1_1, _, fc1_1⟩ := DataW.trod_int Try.underlying3 g1_1
  simp at ec1_1
  subst ec1_1
  have bc1_1 := bounds_i64 fc1_1
  obtain ⟨c2_0, ec2_0, _, fc2_0⟩ := DataW.trod_int Try.underlying3 g2_0
  simp at ec2_0
  subst ec2_0
  have bc2_0 := bounds_i64 fc2_0
  obtain ⟨c2_1, ec2_1, _, fc2_1⟩ := DataW.trod_int Try.underlying3 g2_1
  simp at ec2_1
  subst ec2_1
  have bc2_1 := bounds_i64 fc2_1
  obtain ⟨c2_2, ec2_2, _, fc2_2⟩ := DataW.trod_int Try.underlying3 g2_2
  simp at ec2_2
  subst ec2_2
  have bc2_2 := bounds_i64 fc2_2
  exact ⟨c1_0, c1_1, c2_0, c2_1, c2_2, by rw [← hv], bc1_0, bc1_1, bc2_0, bc2_1, bc2_2⟩
/-- a call, told -/
structure ActV where
  kind : Int
  n : Int
  b : Int
  r : Int
  win : Int
instance : Inhabited ActV := ⟨⟨0, 0, 0, 0, 0⟩⟩
def ActV.cells (x : ActV) : List Value := [iv x.kind, iv x.n, iv x.b, iv x.r, iv x.win]
def ActAt (w : World) (b off : Nat) (x : ActV) : Prop := w.rangeAt b off x.cells ∧ I64 x.kind ∧ I64 x.n ∧ I64 x.b ∧ I64 x.r ∧ I64 x.win
theorem ActAt.below {w w' : World} {b off B : Nat} {x : ActV} (h : ActAt w b off x) (hb : Below B w w') (hl : b < B) : ActAt w' b off x :=
  ⟨fun j v hj => (hb.cell (p := ⟨b, off + j, none⟩) hl).trans (h.1 j v hj), h.2⟩
/-- a list of calls that came in -/
def ArgA (w : World) (a : Option Addr) (len cap : Nat) (l : List ActV) : Prop :=
  l.length = len ∧ len ≤ cap ∧ cap ≤ maxLen ∧ (0 < len → ∃ b off, a = some ⟨b, off, none⟩ ∧ b < w.heap.size ∧ ∀ i x, l[i]? = some x → ActAt w b (off + i * 5) x)
theorem ArgA.nil (w : World) : ArgA w none 0 0 [] := ⟨rfl, Nat.le_refl _, by unfold maxLen; omega, fun h => absurd h (by omega)⟩
theorem ArgA.below {w w' : World} {a : Option Addr} {len cap : Nat} {l : List ActV} (h : ArgA w a len cap l) (hb : Below w.heap.size w w') : ArgA w' a len cap l := by
  obtain ⟨h1, h2, h3, h5⟩ := h
  refine ⟨h1, h2, h3, fun hp => ?_⟩
  obtain ⟨b, off, e1, e2, e3⟩ := h5 hp
  exact ⟨b, off, e1, Nat.lt_of_lt_of_le e2 hb.size, fun i x hx => (e3 i x hx).below hb e2⟩
theorem view_acts {fuel : Nat} {a : Option Addr} {len cap : Nat} {x : DataW H × List MemPlace} (h : DataW.trod enc Try.prog w 0 (fun _ => true) true fuel 24 (Value.slice a len cap).cells.toList = some x) (hx : ∀ n ∈ x.1.weights Try.prog 24, n ≤ reachBytes) :
    ∃ l, ArgA w a len cap l := by
  rcases open_slice Try.underlying24 h with ⟨hcs, _⟩ | ⟨ad, l, c, m, n, D, Pl, hcs, _, hl, hm, hmm, hd, hr⟩
  · simp [Value.cells] at hcs
    obtain ⟨rfl, rfl, rfl⟩ := hcs
    exact ⟨[], ArgA.nil w⟩
  · simp [Value.cells] at hcs
    obtain ⟨rfl, rfl, rfl⟩ := hcs
    simp at hmm
    have ce : Try.prog.cellsOf 36 = 5 := by kernel_rfl
    rw [ce] at hr
    have hsp : 0 < len → ad.spot = none := fun hp => by
      obtain ⟨cs, h1, _⟩ := hr 0 (by omega)
      obtain ⟨_, hlen, hcell⟩ := World.cells?_some h1
      have h0 := hcell 0 (by omega)
      rw [List.getElem?_eq_getElem (by omega)] at h0
      have := World.cell?_spot h0
      simpa [Addr.add] using this
    have each : ∀ i, i < len → ∃ x : ActV, ∃ b off, ad = ⟨b, off, none⟩ ∧ b < w.heap.size ∧ ActAt w b (off + i * 5) x := by
      intro i hi
      obtain ⟨cs, h1, h2⟩ := hr i (by omega)
      obtain ⟨_, hlen, hcell⟩ := World.cells?_some h1
      obtain ⟨v0, v1, v2, v3, v4, rfl⟩ := len5 hlen
      have hmem : ∀ q ∈ (D i, Pl i).1.weights Try.prog 36, q ≤ reachBytes := fun q hq => by
        refine hx q ?_
        rw [hd]
        simp only [DataW.weights, Try.underlying24]
        exact List.mem_cons.2 (.inr (List.mem_append.2 (.inl (mem_weightsAll hq (List.mem_map.2 ⟨i, List.mem_range.2 hi, rfl⟩)))))
      obtain ⟨ys1, k1, hk1, hxy1, _, hxl1, hf1⟩ := DataW.trod_struct Try.underlying36 h2
      have hxl1' : ys1.length = 3 := hxl1
      obtain ⟨y1_0, y1_1, y1_2, rfl⟩ := len3 hxl1'
      have g1_0 := hf1 0 _ rfl
      change DataW.trod enc Try.prog w 0 _ true k1 3 (([v0, v1, v2, v3, v4].drop 0).take (Try.prog.cellsOf 3)) = some y1_0 at g1_0
      rw [show Try.prog.cellsOf 3 = 1 by kernel_rfl] at g1_0
      simp only [List.drop, List.take] at g1_0
      have w1_0 : ∀ q ∈ y1_0.1.weights Try.prog 3, q ≤ reachBytes := fun q hq => hmem q (by
        rw [show (D i, Pl i).1 = DataW.agg [y1_0.1, y1_1.1, y1_2.1] from congrArg Prod.fst hxy1]
        simp only [DataW.weights, Try.underlying36, DataW.weightsEach, List.map, List.mem_append]
        exact .inl hq)
      have g1_1 := hf1 1 _ rfl
      change DataW.trod enc Try.prog w 0 _ true k1 3 (([v0, v1, v2, v3, v4].drop 1).take (Try.prog.cellsOf 3)) = some y1_1 at g1_1
      rw [show Try.prog.cellsOf 3 = 1 by kernel_rfl] at g1_1
      simp only [List.drop, List.take] at g1_1
      have w1_1 : ∀ q ∈ y1_1.1.weights Try.prog 3, q ≤ reachBytes := fun q hq => hmem q (by
        rw [show (D i, Pl i).1 = DataW.agg [y1_0.1, y1_1.1, y1_2.1] from congrArg Prod.fst hxy1]
        simp only [DataW.weights, Try.underlying36, DataW.weightsEach, List.map, List.mem_append]
        exact .inr (.inl hq))
      have g1_2 := hf1 2 _ rfl
      change DataW.trod enc Try.prog w 0 _ true k1 23 (([v0, v1, v2, v3, v4].drop 2).take (Try.prog.cellsOf 23)) = some y1_2 at g1_2
      rw [show Try.prog.cellsOf 23 = 3 by kernel_rfl] at g1_2
      simp only [List.drop, List.take] at g1_2
      have w1_2 : ∀ q ∈ y1_2.1.weights Try.prog 23, q ≤ reachBytes := fun q hq => hmem q (by
        rw [show (D i, Pl i).1 = DataW.agg [y1_0.1, y1_1.1, y1_2.1] from congrArg Prod.fst hxy1]
        simp only [DataW.weights, Try.underlying36, DataW.weightsEach, List.map, List.mem_append]
        exact .inr (.inr (.inl hq)))
      obtain ⟨ys2, k2, hk2, hxy2, _, hxl2, hf2⟩ := DataW.trod_struct Try.underlying23 g1_2
      have hxl2' : ys2.length = 3 := hxl2
      obtain ⟨y2_0, y2_1, y2_2, rfl⟩ := len3 hxl2'
      have g2_0 := hf2 0 _ rfl
      change DataW.trod enc Try.prog w 0 _ true k2 3 (([v2, v3, v4].drop 0).take (Try.prog.cellsOf 3)) = some y2_0 at g2_0
      rw [show Try.prog.cellsOf 3 = 1 by kernel_rfl] at g2_0
      simp only [List.drop, List.take] at g2_0
      have w2_0 : ∀ q ∈ y2_0.1.weights Try.prog 3, q ≤ reachBytes := fun q hq => w1_2 q (by
        rw [show y1_2.1 = DataW.agg [y2_0.1, y2_1.1, y2_2.1] from congrArg Prod.fst hxy2]
        simp only [DataW.weights, Try.underlying23, DataW.weightsEach, List.map, List.mem_append]
        exact .inl hq)
      have g2_1 := hf2 1 _ rfl
      change DataW.trod enc Try.prog w 0 _ true k2 3 (([v2, v3, v4].drop 1).take (Try.prog.cellsOf 3)) = some y2_1 at g2_1
      rw [show Try.prog.cellsOf 3 = 1 by kernel_rfl] at g2_1
      simp only [List.drop, List.take] at g2_1
      have w2_1 : ∀ q ∈ y2_1.1.weights Try.prog 3, q ≤ reachBytes := fun q hq => w1_2 q (by
        rw [show y1_2.1 = DataW.agg [y2_0.1, y2_1.1, y2_2.1] from congrArg Prod.fst hxy2]
        simp only [DataW.weights, Try.underlying23, DataW.weightsEach, List.map, List.mem_append]
        exact .inr (.inl hq))
      have g2_2 := hf2 2 _ rfl
      change DataW.trod enc Try.prog w 0 _ true k2 3 (([v2, v3, v4].drop 2).take (Try.prog.cellsOf 3)) = some y2_2 at g2_2
      rw [show Try.prog.cellsOf 3 = 1 by kernel_rfl] at g2_2
      simp only [List.drop, List.take] at g2_2
      have w2_2 : ∀ q ∈ y2_2.1.weights Try.prog 3, q ≤ reachBytes := fun q hq => w1_2 q (by
        rw [show y1_2.1 = DataW.agg [y2_0.1, y2_1.1, y2_2.1] from congrArg Prod.fst hxy2]
        simp only [DataW.weights, Try.underlying23, DataW.weightsEach, List.map, List.mem_append]
        exact .inr (.inr (.inl hq)))
      obtain ⟨c1_0, ec1_0, _, fc1_0⟩ := DataW.trod_int Try.underlying3 g1_0
      simp at ec1_0
      subst ec1_0
      have bc1_0 := bounds_i64 fc1_0
      obtain ⟨c1_1, ec1_1, _, fc1_1⟩ := DataW.trod_int Try.underlying3 g1_1
      simp at ec1_1
      subst ec1_1
      have bc1_1 := bounds_i64 fc1_1
      obtain ⟨c2_0, ec2_0, _, fc2_0⟩ := DataW.trod_int Try.underlying3 g2_0
      simp at ec2_0
      subst ec2_0
      have bc2_0 := bounds_i64 fc2_0
      obtain ⟨c2_1, ec2_1, _, fc2_1⟩ := DataW.trod_int Try.underlying3 g2_1
      simp at ec2_1
      subst ec2_1
      have bc2_1 := bounds_i64 fc2_1
      obtain ⟨c2_2, ec2_2, _, fc2_2⟩ := DataW.trod_int Try.underlying3 g2_2
      simp at ec2_2
      subst ec2_2
      have bc2_2 := bounds_i64 fc2_2
      obtain ⟨b, off, spot⟩ := ad
      have hs := hsp (by omega)
      simp only at hs
      subst hs
      have hc0 := hcell 0 (by omega)
      rw [Addr.add_lit, Addr.add_lit] at hc0
      refine ⟨⟨c1_0, c1_1, c2_0, c2_1, c2_2⟩, b, off, rfl, ?_, ?_, bc1_0, bc1_1, bc2_0, bc2_1, bc2_2⟩
      · have := World.block_lt_of_cell? w _ hc0
        simpa using this
      · intro j v hj
        have hj5 : j < 5 := (List.getElem?_eq_some_iff.1 hj).1
        have := hcell j (by omega)
        rw [Addr.add_lit, Addr.add_lit] at this
        rw [← hj]
        exact this
    refine ⟨(List.range len).map fun i => if h : i < len then (each i h).choose else default, by simp, by omega, by omega, fun hp => ?_⟩
    obtain ⟨_, b, off, e1, e2, _⟩ := each 0 hp
    refine ⟨b, off, by rw [e1], e2, fun i x hx => ?_⟩
    have hlt : i < len := by
      have := (List.getElem?_eq_some_iff.1 hx).1
      simpa using this
    have e : (each i hlt).choose = x := by simpa [List.getElem?_map, List.getElem?_range hlt, hlt] using hx
    obtain ⟨b', off', e3, _, e5⟩ := (each i hlt).choose_spec
    rw [e1] at e3
    cases e3
    rw [e] at e5
    exact e5
end
#print axioms view_act
#print axioms view_acts
end Go.Proofs.Ytbkkdjafcmnliaa.Oct
