/-
  Layer 19 (audit): the laws' arguments.
-/
import Derived.Test.YtmmpafaegmejlaaDoorLiv
import Derived.Test.YtmmpafaegmejlaaDoorTables
import Derived.Deep.Slices
import Derived.ProofKit
import Derived.SizedLaws
import Derived.ChangeSame
import Derived.OpenShut
import Derived.ShutString
import Derived.ChangeOld
namespace Go.Proofs.YtmmpafaegmejlaaDoor.Oct
open Go.RowKit Go.ChangeShapes Go.WideShapes Go.ChangeAt Go.Deep Sha
set_option maxRecDepth 100000
set_option linter.unusedSimpArgs false
set_option linter.unusedVariables false

theorem len4 {α : Type} {l : List α} (h : l.length = 4) : ∃ a0 a1 a2 a3, l = [a0, a1, a2, a3] := by
  rcases l with _ | ⟨a0, _ | ⟨a1, _ | ⟨a2, _ | ⟨a3, _ | ⟨z, l⟩⟩⟩⟩⟩ <;> simp at h
  exact ⟨a0, a1, a2, a3, rfl⟩
theorem len5 {α : Type} {l : List α} (h : l.length = 5) : ∃ a0 a1 a2 a3 a4, l = [a0, a1, a2, a3, a4] := by
  rcases l with _ | ⟨a0, _ | ⟨a1, _ | ⟨a2, _ | ⟨a3, _ | ⟨a4, _ | ⟨z, l⟩⟩⟩⟩⟩⟩ <;> simp at h
  exact ⟨a0, a1, a2, a3, a4, rfl⟩
theorem cut_at (cs : List Value) (a n b : Nat) (h : a + n = b) : cs.drop a = (cs.drop a).take n ++ cs.drop b := by
  subst h
  rw [← List.drop_drop, List.take_append_drop]
theorem cut_last (cs : List Value) (a n : Nat) (h : cs.length = a + n) : cs.drop a = (cs.drop a).take n := by
  rw [List.take_of_length_le (by rw [List.length_drop]; omega)]
theorem mem_weightsAll {H : Type} {P : Program} {e : TypeId} {d : DataW H} {n : Nat} (hn : n ∈ d.weights P e) : ∀ {ds : List (DataW H)}, d ∈ ds → n ∈ DataW.weightsAll P e ds
  | [], h => by cases h
  | d0 :: r, h => by
    simp only [DataW.weightsAll, List.mem_append]
    rcases List.mem_cons.1 h with rfl | h
    · exact .inl hn
    · exact .inr (mem_weightsAll hn h)
section
variable {H : Type} {enc : TypeId × Value → H} {w : World}
theorem view_hash {n : Nat} {cs : List Value} {x : DataW H × List MemPlace} (h : DataW.trod enc Tryd.prog w 0 (fun _ => true) true n 35 cs = some x) : ∃ hh : List UInt8, hh.length = 32 ∧ cs = U hh := by
  obtain ⟨xs, m, _, _, hl, hxl, hf⟩ := DataW.trod_array Tryd.underlying35 h
  have hl' : cs.length = 32 := by rw [hl]; kernel_rfl
  have c5 : Tryd.prog.cellsOf 5 = 1 := by kernel_rfl
  rw [c5] at hf
  have each : ∀ i, i < 32 → ∃ c : UInt8, cs[i]? = some (.int .u8 (c.toNat : Int)) := by
    intro i hi
    have h1 := hf i hi
    rw [List.getElem?_eq_getElem (by omega)] at h1
    obtain ⟨k, hk, _, hw⟩ := DataW.trod_int Tryd.underlying5 h1
    have hb := bounds_u8 hw
    refine ⟨UInt8.ofNat k.toNat, ?_⟩
    have : cs[i]? = some (.int .u8 k) := by
      rw [Nat.mul_one] at hk
      have := congrArg (·[0]?) hk
      simpa [List.getElem?_take, List.getElem?_drop] using this
    rw [this, UInt8.toNat_ofNat']
    congr 2
    omega
  obtain ⟨G, hG⟩ := choose_lt each
  refine ⟨(List.range 32).map G, by simp, ?_⟩
  apply List.ext_getElem?
  intro i
  by_cases hi : i < 32
  · rw [hG i hi]; simp [U, hi]
  · rw [List.getElem?_eq_none (by omega), List.getElem?_eq_none (by simp [U]; omega)]
#print axioms view_hash
/-- cells that were read are a range -/
theorem range_of_cells {b off n : Nat} {cs : List Value} (h : w.cells? 0 ⟨b, off, none⟩ n = some cs) : w.rangeAt b off cs := by
  obtain ⟨_, hlen, hcell⟩ := World.cells?_some h
  intro j v hj
  have hlt := (List.getElem?_eq_some_iff.1 hj).1
  have := hcell j (by omega)
  rw [Addr.add_lit] at this
  rw [← hj]
  exact this
/-- hashes that were read -/
theorem fld_str {n : Nat} {cs : List Value} {x : DataW H × List MemPlace} (h : DataW.trod enc Tryd.prog w 0 (fun _ => true) true n 9 cs = some x) (hx : ∀ k ∈ x.1.weights Tryd.prog 9, k ≤ reachBytes) :
    ∃ s : ByteArray, cs = [.string s] ∧ s.size ≤ 140737488355328 := by
  obtain ⟨s, hs, hd, _⟩ := DataW.trod_string Tryd.underlying9 h
  refine ⟨s, by simpa using hs, ?_⟩
  have hmem : s.size ∈ x.1.weights Tryd.prog 9 := by
    rw [hd]
    simp [DataW.weights]
  have := hx _ hmem
  simp only [reachBytes] at this
  omega
theorem cells_act {fuel : Nat} {cs : List Value} {x : DataW H × List MemPlace} (h : DataW.trod enc Tryd.prog w 0 (fun _ => true) true fuel 29 cs = some x) (hx : ∀ k ∈ x.1.weights Tryd.prog 29, k ≤ reachBytes) :
    ∃ (f0 : Int) (f1 : ByteArray) (f2 : ByteArray) (f3 : Bool), cs = [iv f0] ++ ([.string f1] ++ ([.string f2] ++ ([.bool f3]))) ∧ (-9223372036854775808 ≤ f0 ∧ f0 ≤ 9223372036854775807) ∧ f1.size ≤ 140737488355328 ∧ f2.size ≤ 140737488355328 ∧ True := by
  obtain ⟨ys, k, hk, hxy, hcl, hxl, hf⟩ := DataW.trod_struct Tryd.underlying29 h
  have hcl' : cs.length = 4 := by rw [hcl]; kernel_rfl
  have hxl' : ys.length = 4 := hxl
  obtain ⟨y0, y1, y2, y3, rfl⟩ := len4 hxl'
  have g0 := hf 0 _ rfl
  change DataW.trod enc Tryd.prog w 0 _ true k 3 ((cs.drop 0).take (Tryd.prog.cellsOf 3)) = some y0 at g0
  rw [show Tryd.prog.cellsOf 3 = 1 by kernel_rfl] at g0
  have w0 : ∀ q ∈ y0.1.weights Tryd.prog 3, q ≤ reachBytes := fun q hq => hx q (by
    rw [show x.1 = DataW.agg [y0.1, y1.1, y2.1, y3.1] from congrArg Prod.fst hxy]
    simp only [DataW.weights, Tryd.underlying29, DataW.weightsEach, List.map, List.mem_append]
    exact .inl hq)
  obtain ⟨f0, e0, _, b0⟩ := DataW.trod_int Tryd.underlying3 g0
  have b0 := bounds_i64 b0
  have g1 := hf 1 _ rfl
  change DataW.trod enc Tryd.prog w 0 _ true k 9 ((cs.drop 1).take (Tryd.prog.cellsOf 9)) = some y1 at g1
  rw [show Tryd.prog.cellsOf 9 = 1 by kernel_rfl] at g1
  have w1 : ∀ q ∈ y1.1.weights Tryd.prog 9, q ≤ reachBytes := fun q hq => hx q (by
    rw [show x.1 = DataW.agg [y0.1, y1.1, y2.1, y3.1] from congrArg Prod.fst hxy]
    simp only [DataW.weights, Tryd.underlying29, DataW.weightsEach, List.map, List.mem_append]
    exact .inr (.inl hq))
  obtain ⟨f1, e1, b1⟩ := fld_str g1 w1
  have g2 := hf 2 _ rfl
  change DataW.trod enc Tryd.prog w 0 _ true k 9 ((cs.drop 2).take (Tryd.prog.cellsOf 9)) = some y2 at g2
  rw [show Tryd.prog.cellsOf 9 = 1 by kernel_rfl] at g2
  have w2 : ∀ q ∈ y2.1.weights Tryd.prog 9, q ≤ reachBytes := fun q hq => hx q (by
    rw [show x.1 = DataW.agg [y0.1, y1.1, y2.1, y3.1] from congrArg Prod.fst hxy]
    simp only [DataW.weights, Tryd.underlying29, DataW.weightsEach, List.map, List.mem_append]
    exact .inr (.inr (.inl hq)))
  obtain ⟨f2, e2, b2⟩ := fld_str g2 w2
  have g3 := hf 3 _ rfl
  change DataW.trod enc Tryd.prog w 0 _ true k 4 ((cs.drop 3).take (Tryd.prog.cellsOf 4)) = some y3 at g3
  rw [show Tryd.prog.cellsOf 4 = 1 by kernel_rfl] at g3
  have w3 : ∀ q ∈ y3.1.weights Tryd.prog 4, q ≤ reachBytes := fun q hq => hx q (by
    rw [show x.1 = DataW.agg [y0.1, y1.1, y2.1, y3.1] from congrArg Prod.fst hxy]
    simp only [DataW.weights, Tryd.underlying29, DataW.weightsEach, List.map, List.mem_append]
    exact .inr (.inr (.inr (.inl hq))))
  obtain ⟨f3, e3, _⟩ := DataW.trod_bool Tryd.underlying4 g3
  have b3 : True := trivial
  refine ⟨f0, f1, f2, f3, ?_, b0, b1, b2, b3⟩
  refine (show cs = cs.drop 0 from rfl).trans ?_
  rw [cut_at cs 0 1 1 rfl, e0]
  refine congrArg (fun z : List Value => ([iv f0] : List Value) ++ z) ?_
  rw [cut_at cs 1 1 2 rfl, e1]
  refine congrArg (fun z : List Value => ([.string f1] : List Value) ++ z) ?_
  rw [cut_at cs 2 1 3 rfl, e2]
  refine congrArg (fun z : List Value => ([.string f2] : List Value) ++ z) ?_
  rw [cut_last cs 3 1 hcl', e3]
theorem cells_ent {fuel : Nat} {cs : List Value} {x : DataW H × List MemPlace} (h : DataW.trod enc Tryd.prog w 0 (fun _ => true) true fuel 37 cs = some x) (hx : ∀ k ∈ x.1.weights Tryd.prog 37, k ≤ reachBytes) :
    ∃ (f0 : Int) (f1 : Int) (f2 : ByteArray) (f3 : ByteArray) (f4 : List UInt8), cs = [iv f0] ++ ([iv f1] ++ ([.string f2] ++ ([.string f3] ++ (U f4)))) ∧ (-9223372036854775808 ≤ f0 ∧ f0 ≤ 9223372036854775807) ∧ (-9223372036854775808 ≤ f1 ∧ f1 ≤ 9223372036854775807) ∧ f2.size ≤ 140737488355328 ∧ f3.size ≤ 140737488355328 ∧ f4.length = 32 := by
  obtain ⟨ys, k, hk, hxy, hcl, hxl, hf⟩ := DataW.trod_struct Tryd.underlying37 h
  have hcl' : cs.length = 36 := by rw [hcl]; kernel_rfl
  have hxl' : ys.length = 5 := hxl
  obtain ⟨y0, y1, y2, y3, y4, rfl⟩ := len5 hxl'
  have g0 := hf 0 _ rfl
  change DataW.trod enc Tryd.prog w 0 _ true k 3 ((cs.drop 0).take (Tryd.prog.cellsOf 3)) = some y0 at g0
  rw [show Tryd.prog.cellsOf 3 = 1 by kernel_rfl] at g0
  have w0 : ∀ q ∈ y0.1.weights Tryd.prog 3, q ≤ reachBytes := fun q hq => hx q (by
    rw [show x.1 = DataW.agg [y0.1, y1.1, y2.1, y3.1, y4.1] from congrArg Prod.fst hxy]
    simp only [DataW.weights, Tryd.underlying37, DataW.weightsEach, List.map, List.mem_append]
    exact .inl hq)
  obtain ⟨f0, e0, _, b0⟩ := DataW.trod_int Tryd.underlying3 g0
  have b0 := bounds_i64 b0
  have g1 := hf 1 _ rfl
  change DataW.trod enc Tryd.prog w 0 _ true k 3 ((cs.drop 1).take (Tryd.prog.cellsOf 3)) = some y1 at g1
  rw [show Tryd.prog.cellsOf 3 = 1 by kernel_rfl] at g1
  have w1 : ∀ q ∈ y1.1.weights Tryd.prog 3, q ≤ reachBytes := fun q hq => hx q (by
    rw [show x.1 = DataW.agg [y0.1, y1.1, y2.1, y3.1, y4.1] from congrArg Prod.fst hxy]
    simp only [DataW.weights, Tryd.underlying37, DataW.weightsEach, List.map, List.mem_append]
    exact .inr (.inl hq))
  obtain ⟨f1, e1, _, b1⟩ := DataW.trod_int Tryd.underlying3 g1
  have b1 := bounds_i64 b1
  have g2 := hf 2 _ rfl
  change DataW.trod enc Tryd.prog w 0 _ true k 9 ((cs.drop 2).take (Tryd.prog.cellsOf 9)) = some y2 at g2
  rw [show Tryd.prog.cellsOf 9 = 1 by kernel_rfl] at g2
  have w2 : ∀ q ∈ y2.1.weights Tryd.prog 9, q ≤ reachBytes := fun q hq => hx q (by
    rw [show x.1 = DataW.agg [y0.1, y1.1, y2.1, y3.1, y4.1] from congrArg Prod.fst hxy]
    simp only [DataW.weights, Tryd.underlying37, DataW.weightsEach, List.map, List.mem_append]
    exact .inr (.inr (.inl hq)))
  obtain ⟨f2, e2, b2⟩ := fld_str g2 w2
  have g3 := hf 3 _ rfl
  change DataW.trod enc Tryd.prog w 0 _ true k 9 ((cs.drop 3).take (Tryd.prog.cellsOf 9)) = some y3 at g3
  rw [show Tryd.prog.cellsOf 9 = 1 by kernel_rfl] at g3
  have w3 : ∀ q ∈ y3.1.weights Tryd.prog 9, q ≤ reachBytes := fun q hq => hx q (by
    rw [show x.1 = DataW.agg [y0.1, y1.1, y2.1, y3.1, y4.1] from congrArg Prod.fst hxy]
    simp only [DataW.weights, Tryd.underlying37, DataW.weightsEach, List.map, List.mem_append]
    exact .inr (.inr (.inr (.inl hq))))
  obtain ⟨f3, e3, b3⟩ := fld_str g3 w3
  have g4 := hf 4 _ rfl
  change DataW.trod enc Tryd.prog w 0 _ true k 35 ((cs.drop 4).take (Tryd.prog.cellsOf 35)) = some y4 at g4
  rw [show Tryd.prog.cellsOf 35 = 32 by kernel_rfl] at g4
  have w4 : ∀ q ∈ y4.1.weights Tryd.prog 35, q ≤ reachBytes := fun q hq => hx q (by
    rw [show x.1 = DataW.agg [y0.1, y1.1, y2.1, y3.1, y4.1] from congrArg Prod.fst hxy]
    simp only [DataW.weights, Tryd.underlying37, DataW.weightsEach, List.map, List.mem_append]
    exact .inr (.inr (.inr (.inr (.inl hq)))))
  obtain ⟨f4, b4, e4⟩ := view_hash g4
  refine ⟨f0, f1, f2, f3, f4, ?_, b0, b1, b2, b3, b4⟩
  refine (show cs = cs.drop 0 from rfl).trans ?_
  rw [cut_at cs 0 1 1 rfl, e0]
  refine congrArg (fun z : List Value => ([iv f0] : List Value) ++ z) ?_
  rw [cut_at cs 1 1 2 rfl, e1]
  refine congrArg (fun z : List Value => ([iv f1] : List Value) ++ z) ?_
  rw [cut_at cs 2 1 3 rfl, e2]
  refine congrArg (fun z : List Value => ([.string f2] : List Value) ++ z) ?_
  rw [cut_at cs 3 1 4 rfl, e3]
  refine congrArg (fun z : List Value => ([.string f3] : List Value) ++ z) ?_
  rw [cut_last cs 4 32 hcl', e4]
/-- a call, told -/
structure ActV where
  tick : Int
  who : BA
  what : BA
  again : Bool
def ActV.cells (x : ActV) : List Value := [iv x.tick, .string x.who, .string x.what, .bool x.again]
def ActV.ok (x : ActV) : Prop := (-9223372036854775808 ≤ x.tick ∧ x.tick ≤ 9223372036854775807) ∧ x.who.size ≤ 140737488355328 ∧ x.what.size ≤ 140737488355328
instance : Inhabited ActV := ⟨⟨0, e0, e0, false⟩⟩
instance : Inhabited En := ⟨zE⟩
theorem view_act {fuel : Nat} {xs : Array Value} {x : DataW H × List MemPlace} (h : DataW.trod enc Tryd.prog w 0 (fun _ => true) true fuel 29 (Value.agg xs).cells.toList = some x) (hw : ∀ n ∈ x.1.weights Tryd.prog 29, n ≤ reachBytes) :
    ∃ q : ActV, xs = q.cells.toArray ∧ q.ok := by
  obtain ⟨f0, f1, f2, f3, e, b0, b1, b2, b3⟩ := cells_act h hw
  refine ⟨⟨f0, f1, f2, f3⟩, ?_, b0, b1, b2⟩
  have e' : xs.toList = ActV.cells ⟨f0, f1, f2, f3⟩ := by simpa [Value.cells, ActV.cells] using e
  rw [← e']
/-- a list of calls that came in -/
def ArgA (w : World) (a : Option Addr) (len cap : Nat) (l : List ActV) : Prop :=
  l.length = len ∧ len ≤ 140737488355328 ∧ (∀ x ∈ l, x.ok) ∧ (0 < len → ∃ b off, a = some ⟨b, off, none⟩ ∧ b < w.heap.size ∧ ∀ i x, l[i]? = some x → w.rangeAt b (off + i * 4) x.cells)
theorem view_acts {fuel : Nat} {a : Option Addr} {len cap : Nat} {x : DataW H × List MemPlace} (h : DataW.trod enc Tryd.prog w 0 (fun _ => true) true fuel 22 (Value.slice a len cap).cells.toList = some x) (hx : ∀ n ∈ x.1.weights Tryd.prog 22, n ≤ reachBytes) :
    ∃ l, ArgA w a len cap l := by
  rcases open_slice Tryd.underlying22 h with ⟨hcs, _⟩ | ⟨ad, l, c, m, n, D, Pl, hcs, _, hl, hm, hmm, hd, hr⟩
  · simp [Value.cells] at hcs
    obtain ⟨rfl, rfl, rfl⟩ := hcs
    exact ⟨[], rfl, by omega, by simp, fun h => absurd h (by omega)⟩
  · simp [Value.cells] at hcs
    obtain ⟨rfl, rfl, rfl⟩ := hcs
    have hw : (len + (m - len)) * 48 ∈ x.1.weights Tryd.prog 22 := by
      rw [hd]
      simp only [DataW.weights, Tryd.underlying22]
      rw [show Tryd.prog.bytesOf 29 = 48 by kernel_rfl]
      simp
    have hsz := hx _ hw
    simp only [reachBytes] at hsz
    simp at hmm
    have ce : Tryd.prog.cellsOf 29 = 4 := by kernel_rfl
    rw [ce] at hr
    have hsp : 0 < len → ad.spot = none := fun hp => by
      obtain ⟨cs, h1, _⟩ := hr 0 (by omega)
      obtain ⟨_, hlen, hcell⟩ := World.cells?_some h1
      have h0 := hcell 0 (by omega)
      rw [List.getElem?_eq_getElem (by omega)] at h0
      have := World.cell?_spot h0
      simpa [Addr.add] using this
    have each : ∀ i, i < len → ∃ x : ActV, x.ok ∧ ∃ b off, ad = ⟨b, off, none⟩ ∧ b < w.heap.size ∧ w.rangeAt b (off + i * 4) x.cells := by
      intro i hi
      obtain ⟨cs, h1, h2⟩ := hr i (by omega)
      obtain ⟨_, hlen, hcell⟩ := World.cells?_some h1
      have hmem : ∀ q ∈ (D i, Pl i).1.weights Tryd.prog 29, q ≤ reachBytes := fun q hq => by
        refine hx q ?_
        rw [hd]
        simp only [DataW.weights, Tryd.underlying22]
        exact List.mem_cons.2 (.inr (List.mem_append.2 (.inl (mem_weightsAll hq (List.mem_map.2 ⟨i, List.mem_range.2 hi, rfl⟩)))))
      obtain ⟨f0, f1, f2, f3, e, b0, b1, b2, b3⟩ := cells_act (x := (D i, Pl i)) h2 hmem
      have e' : cs = ActV.cells ⟨f0, f1, f2, f3⟩ := by simpa [ActV.cells] using e
      subst e'
      obtain ⟨b, off, spot⟩ := ad
      have hs := hsp (by omega)
      simp only at hs
      subst hs
      have hc0 := hcell 0 (by omega)
      rw [Addr.add_lit, Addr.add_lit] at hc0
      refine ⟨⟨f0, f1, f2, f3⟩, ⟨b0, b1, b2⟩, b, off, rfl, ?_, ?_⟩
      · have := World.block_lt_of_cell? w _ hc0
        simpa using this
      · intro j v hj
        have hj5 := (List.getElem?_eq_some_iff.1 hj).1
        have := hcell j (by omega)
        rw [Addr.add_lit, Addr.add_lit] at this
        rw [← hj]
        exact this
    have hsame : ∀ r ∈ (List.range len).map fun i => if h : i < len then (each i h).choose else default, r.ok := by
      intro r hr
      obtain ⟨i, hi, rfl⟩ := List.mem_map.1 hr
      have hlt := List.mem_range.1 hi
      rw [dif_pos hlt]
      exact (each i hlt).choose_spec.1
    have hrow : 0 < len → ∃ b off, some ad = some ⟨b, off, none⟩ ∧ b < w.heap.size ∧ ∀ i x, ((List.range len).map fun i => if h : i < len then (each i h).choose else default)[i]? = some x → w.rangeAt b (off + i * 4) x.cells := fun hp => by
      obtain ⟨_, _, b, off, e1, e2, _⟩ := each 0 hp
      refine ⟨b, off, by rw [e1], e2, fun i x hx => ?_⟩
      have hlt : i < len := by
        have := (List.getElem?_eq_some_iff.1 hx).1
        simpa using this
      have e : (each i hlt).choose = x := by simpa [List.getElem?_map, List.getElem?_range hlt, hlt] using hx
      obtain ⟨_, b', off', e3, _, e5⟩ := (each i hlt).choose_spec
      rw [e1] at e3
      cases e3
      rw [e] at e5
      exact e5
    exact ⟨_, by simp, by omega, hsame, hrow⟩
theorem view_ents {fuel : Nat} {a : Option Addr} {len cap : Nat} {x : DataW H × List MemPlace} (h : DataW.trod enc Tryd.prog w 0 (fun _ => true) true fuel 27 (Value.slice a len cap).cells.toList = some x) (hx : ∀ n ∈ x.1.weights Tryd.prog 27, n ≤ reachBytes) :
    ∃ l, l.length = len ∧ EsR w (.slice a l.length cap) l := by
  rcases open_slice Tryd.underlying27 h with ⟨hcs, _⟩ | ⟨ad, l, c, m, n, D, Pl, hcs, _, hl, hm, hmm, hd, hr⟩
  · simp [Value.cells] at hcs
    obtain ⟨rfl, rfl, rfl⟩ := hcs
    exact ⟨[], rfl, by simp, none, 0, rfl, Nat.le_refl _, by unfold maxLen; omega, fun h => absurd h (by simp)⟩
  · simp [Value.cells] at hcs
    obtain ⟨rfl, rfl, rfl⟩ := hcs
    have hw : (len + (m - len)) * 80 ∈ x.1.weights Tryd.prog 27 := by
      rw [hd]
      simp only [DataW.weights, Tryd.underlying27]
      rw [show Tryd.prog.bytesOf 37 = 80 by kernel_rfl]
      simp
    have hsz := hx _ hw
    simp only [reachBytes] at hsz
    simp at hmm
    have ce : Tryd.prog.cellsOf 37 = 36 := by kernel_rfl
    rw [ce] at hr
    have hsp : 0 < len → ad.spot = none := fun hp => by
      obtain ⟨cs, h1, _⟩ := hr 0 (by omega)
      obtain ⟨_, hlen, hcell⟩ := World.cells?_some h1
      have h0 := hcell 0 (by omega)
      rw [List.getElem?_eq_getElem (by omega)] at h0
      have := World.cell?_spot h0
      simpa [Addr.add] using this
    have each : ∀ i, i < len → ∃ x : En, x.ok ∧ ∃ b off, ad = ⟨b, off, none⟩ ∧ b < w.heap.size ∧ w.rangeAt b (off + i * 36) x.cells := by
      intro i hi
      obtain ⟨cs, h1, h2⟩ := hr i (by omega)
      obtain ⟨_, hlen, hcell⟩ := World.cells?_some h1
      have hmem : ∀ q ∈ (D i, Pl i).1.weights Tryd.prog 37, q ≤ reachBytes := fun q hq => by
        refine hx q ?_
        rw [hd]
        simp only [DataW.weights, Tryd.underlying27]
        exact List.mem_cons.2 (.inr (List.mem_append.2 (.inl (mem_weightsAll hq (List.mem_map.2 ⟨i, List.mem_range.2 hi, rfl⟩)))))
      obtain ⟨f0, f1, f2, f3, f4, e, b0, b1, b2, b3, b4⟩ := cells_ent (x := (D i, Pl i)) h2 hmem
      have e' : cs = En.cells ⟨f0, f1, f2, f3, f4⟩ := by simpa [En.cells] using e
      subst e'
      obtain ⟨b, off, spot⟩ := ad
      have hs := hsp (by omega)
      simp only at hs
      subst hs
      have hc0 := hcell 0 (by omega)
      rw [Addr.add_lit, Addr.add_lit] at hc0
      refine ⟨⟨f0, f1, f2, f3, f4⟩, ⟨b4, b0.2, b1.2, b2, b3⟩, b, off, rfl, ?_, ?_⟩
      · have := World.block_lt_of_cell? w _ hc0
        simpa using this
      · intro j v hj
        have hj5 := (List.getElem?_eq_some_iff.1 hj).1
        have := hcell j (by omega)
        rw [Addr.add_lit, Addr.add_lit] at this
        rw [← hj]
        exact this
    have hsame : ∀ r ∈ (List.range len).map fun i => if h : i < len then (each i h).choose else default, r.ok := by
      intro r hr
      obtain ⟨i, hi, rfl⟩ := List.mem_map.1 hr
      have hlt := List.mem_range.1 hi
      rw [dif_pos hlt]
      exact (each i hlt).choose_spec.1
    have hrow : 0 < len → ∃ b off, some ad = some ⟨b, off, none⟩ ∧ b < w.heap.size ∧ ∀ i x, ((List.range len).map fun i => if h : i < len then (each i h).choose else default)[i]? = some x → w.rangeAt b (off + i * 36) x.cells := fun hp => by
      obtain ⟨_, _, b, off, e1, e2, _⟩ := each 0 hp
      refine ⟨b, off, by rw [e1], e2, fun i x hx => ?_⟩
      have hlt : i < len := by
        have := (List.getElem?_eq_some_iff.1 hx).1
        simpa using this
      have e : (each i hlt).choose = x := by simpa [List.getElem?_map, List.getElem?_range hlt, hlt] using hx
      obtain ⟨_, b', off', e3, _, e5⟩ := (each i hlt).choose_spec
      rw [e1] at e3
      cases e3
      rw [e] at e5
      exact e5
    have hlen : ((List.range len).map fun i => if h : i < len then (each i h).choose else default).length = len := by simp
    refine ⟨_, hlen, hsame, some ad, cap, rfl, by rw [hlen]; omega, by first | exact hmm | exact hm | omega, fun hp => hrow (by rw [hlen] at hp; exact hp)⟩
end
#print axioms view_acts
#print axioms view_ents
end Go.Proofs.YtmmpafaegmejlaaDoor.Oct
