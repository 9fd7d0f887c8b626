/-
  Layer 16 (token): the variables that the rows list; the laws' arguments.
-/
import Derived.Test.YtjeahlfmapacfaaDoorLiv
import Derived.Lib.LaidTab
import Derived.Stop.LaidErr
import Derived.Deep.Slices
import Derived.ProofKit
import Derived.SizedLaws
import Derived.ChangeSame
import Derived.OpenShut
import Derived.ShutString
import Derived.ChangeOld
namespace Go.Proofs.YtjeahlfmapacfaaDoor.Oct
open Go.RowKit Go.ChangeShapes Go.WideShapes Go.ChangeAt Go.Deep Sha
set_option maxRecDepth 100000
set_option linter.unusedSimpArgs false
set_option linter.unusedVariables false

theorem own : ownKnob Tryd.prog.godebug = none := by kernel_rfl
theorem laidOut : laidOutB Tryd.prog = true := by kernel_rfl
theorem gS : Tryd.prog.globalNamed "ingot/hash.start" = some 1 := by kernel_rfl
theorem gK : Tryd.prog.globalNamed "ingot/hash.k" = some 2 := by kernel_rfl
theorem gSType : (Tryd.prog.globals[1]?).map (·.type) = some 104 := by kernel_rfl
theorem gKType : (Tryd.prog.globals[2]?).map (·.type) = some 95 := by kernel_rfl
def zS : List Int := Sha.start.words.map fun x => (x.toNat : Int)
def zK : List Int := kTab.map fun x => (x.toNat : Int)
theorem laidS : (Rows.laid_ingot_hash_start : DataW Unit) = Lib.tabData .u32 zS := by kernel_rfl
theorem laidK : (Rows.laid_ingot_hash_k : DataW Unit) = Lib.tabData .u32 zK := by kernel_rfl
theorem u52 : Tryd.prog.underlying 95 = some (.array 64 93) := by kernel_rfl
theorem u45 : Tryd.prog.underlying 104 = some (.array 8 93) := by kernel_rfl
theorem u44 : Tryd.prog.underlying 93 = some (.int .u32) := by kernel_rfl

theorem lt_of_cell {w : World} {b i : Nat} {v : Value} (h : w.cell? ⟨b, i, none⟩ = some v) : b < w.heap.size := by
  rcases Nat.lt_or_ge b w.heap.size with h1 | h1
  · exact h1
  · exfalso
    unfold World.cell? at h
    simp [h1] at h

def z32 : List Int := [0, 1, 28, 2, 29, 14, 24, 3, 30, 22, 20, 15, 25, 17, 4, 8, 31, 27, 13, 23, 21, 19, 16, 7, 26, 12, 18, 6, 11, 5, 10, 9]
def z64 : List Int := [0, 1, 56, 2, 57, 49, 28, 3, 61, 58, 42, 50, 38, 29, 17, 4, 62, 47, 59, 36, 45, 43, 51, 22, 53, 39, 33, 30, 24, 18, 12, 5, 63, 55, 48, 27, 60, 41, 37, 16, 46, 35, 44, 21, 52, 32, 23, 11, 54, 26, 40, 15, 34, 20, 31, 10, 25, 14, 19, 9, 13, 8, 7, 6]
theorem st_of_laid {W : World} (h : laidMetH Tryd.prog [("math/bits.deBruijn32tab", Rows.laid_math_bits_deBruijn32tab), ("math/bits.deBruijn64tab", Rows.laid_math_bits_deBruijn64tab), ("internal/strconv.uint64pow10", Rows.laid_internal_strconv_uint64pow10), ("ingot/hash.start", Rows.laid_ingot_hash_start), ("ingot/hash.k", Rows.laid_ingot_hash_k)] W) : ST W := by
  have h' : laidMet Tryd.prog [("ingot/hash.start", Lib.tabData .u32 zS), ("ingot/hash.k", Rows.laid_ingot_hash_k)] W := by rw [← laidS]; exact laidMet.tail (laidMet.tail (laidMet.tail h))
  have ht := Lib.tabIs_of_head gS gSType u45 u44 (by kernel_rfl) (by kernel_rfl) h'
  have hc : ∀ j, j < 8 → W.cell? ⟨1, j, none⟩ = some (.int .u32 (zS.getD j 0)) := fun j hj => ht.cell gS j hj
  refine ⟨lt_of_cell (hc 0 (by omega)), fun j v hj => ?_⟩
  have hlt : j < 8 := by have := (List.getElem?_eq_some_iff.1 hj).1; exact this
  rw [Nat.zero_add, hc j hlt]
  rw [← hj]
  simp [V, zS, show j < Sha.start.words.length from hlt]
theorem kt_of_laid {W : World} (h : laidMetH Tryd.prog [("math/bits.deBruijn32tab", Rows.laid_math_bits_deBruijn32tab), ("math/bits.deBruijn64tab", Rows.laid_math_bits_deBruijn64tab), ("internal/strconv.uint64pow10", Rows.laid_internal_strconv_uint64pow10), ("ingot/hash.start", Rows.laid_ingot_hash_start), ("ingot/hash.k", Rows.laid_ingot_hash_k)] W) : KT W := by
  have h1 : laidMet Tryd.prog [("ingot/hash.k", Rows.laid_ingot_hash_k)] W := laidMet.tail (laidMet.tail (laidMet.tail (laidMet.tail h)))
  have h' : laidMet Tryd.prog [("ingot/hash.k", Lib.tabData .u32 zK)] W := by rw [← laidK]; exact h1
  have ht := Lib.tabIs_of_head gK gKType u52 u44 (by kernel_rfl) (by kernel_rfl) h'
  have hl : kTab.length = 64 := rfl
  have hc : ∀ j, j < 64 → W.cell? ⟨2, j, none⟩ = some (.int .u32 (zK.getD j 0)) := fun j hj => ht.cell gK j (by simp [zK]; omega)
  refine ⟨lt_of_cell (hc 0 (by omega)), fun t ht => ?_⟩
  rw [hc t ht]
  simp [zK, show t < kTab.length by omega]
theorem gP : Tryd.prog.globalNamed "internal/strconv.uint64pow10" = some 3 := by kernel_rfl
theorem gPType : (Tryd.prog.globals[3]?).map (·.type) = some 121 := by kernel_rfl
theorem laidP : (Rows.laid_internal_strconv_uint64pow10 : DataW Unit) = Lib.tabData .u64 Lib.pow10Tab := by kernel_rfl
theorem u121 : Tryd.prog.underlying 121 = some (.array 20 92) := by kernel_rfl
theorem uE : Tryd.prog.underlying 92 = some (.int .u64) := by kernel_rfl
theorem pt_of_laid {W : World} (h : laidMetH Tryd.prog [("math/bits.deBruijn32tab", Rows.laid_math_bits_deBruijn32tab), ("math/bits.deBruijn64tab", Rows.laid_math_bits_deBruijn64tab), ("internal/strconv.uint64pow10", Rows.laid_internal_strconv_uint64pow10), ("ingot/hash.start", Rows.laid_ingot_hash_start), ("ingot/hash.k", Rows.laid_ingot_hash_k)] W) : PT W := by
  have h1 : laidMet Tryd.prog [("internal/strconv.uint64pow10", Rows.laid_internal_strconv_uint64pow10), ("ingot/hash.start", Rows.laid_ingot_hash_start), ("ingot/hash.k", Rows.laid_ingot_hash_k)] W := laidMet.tail (laidMet.tail h)
  have h' : laidMet Tryd.prog [("internal/strconv.uint64pow10", Lib.tabData .u64 Lib.pow10Tab), ("ingot/hash.start", Rows.laid_ingot_hash_start), ("ingot/hash.k", Rows.laid_ingot_hash_k)] W := by rw [← laidP]; exact h1
  exact Lib.tabIs_of_head gP gPType u121 uE (by kernel_rfl) (by kernel_rfl) h'
theorem vt_of_laid {W : World} (h : laidMetH Tryd.prog [("math/bits.deBruijn32tab", Rows.laid_math_bits_deBruijn32tab), ("math/bits.deBruijn64tab", Rows.laid_math_bits_deBruijn64tab), ("internal/strconv.uint64pow10", Rows.laid_internal_strconv_uint64pow10), ("ingot/hash.start", Rows.laid_ingot_hash_start), ("ingot/hash.k", Rows.laid_ingot_hash_k)] W) : VT W := ⟨kt_of_laid h, st_of_laid h, pt_of_laid h⟩
#print axioms vt_of_laid
theorem len7 {α : Type} {l : List α} (h : l.length = 7) : ∃ a0 a1 a2 a3 a4 a5 a6, l = [a0, a1, a2, a3, a4, a5, a6] := by
  rcases l with _ | ⟨a0, _ | ⟨a1, _ | ⟨a2, _ | ⟨a3, _ | ⟨a4, _ | ⟨a5, _ | ⟨a6, _ | ⟨z, l⟩⟩⟩⟩⟩⟩⟩⟩ <;> simp at h
  exact ⟨a0, a1, a2, a3, a4, a5, a6, rfl⟩
theorem cut_at (cs : List Value) (a n b : Nat) (h : a + n = b) : cs.drop a = (cs.drop a).take n ++ cs.drop b := by
  subst h
  rw [← List.drop_drop, List.take_append_drop]
theorem cut_last (cs : List Value) (a n : Nat) (h : cs.length = a + n) : cs.drop a = (cs.drop a).take n := by
  rw [List.take_of_length_le (by rw [List.length_drop]; omega)]
theorem mem_weightsAll {H : Type} {P : Program} {e : TypeId} {d : DataW H} {n : Nat} (hn : n ∈ d.weights P e) : ∀ {ds : List (DataW H)}, d ∈ ds → n ∈ DataW.weightsAll P e ds
  | [], h => by cases h
  | d0 :: r, h => by
    simp only [DataW.weightsAll, List.mem_append]
    rcases List.mem_cons.1 h with rfl | h
    · exact .inl hn
    · exact .inr (mem_weightsAll hn h)
section
variable {H : Type} {enc : TypeId × Value → H} {w : World}
theorem fld_str {n : Nat} {cs : List Value} {x : DataW H × List MemPlace} (h : DataW.trod enc Tryd.prog w 0 (fun _ => true) true n 9 cs = some x) (hx : ∀ k ∈ x.1.weights Tryd.prog 9, k ≤ reachBytes) :
    ∃ s : ByteArray, cs = [.string s] ∧ s.size ≤ 140737488355328 := by
  obtain ⟨s, hs, hd, _⟩ := DataW.trod_string Tryd.underlying9 h
  refine ⟨s, by simpa using hs, ?_⟩
  have hmem : s.size ∈ x.1.weights Tryd.prog 9 := by
    rw [hd]
    simp [DataW.weights]
  have := hx _ hmem
  simp only [reachBytes] at this
  omega
theorem cells_act {fuel : Nat} {cs : List Value} {x : DataW H × List MemPlace} (h : DataW.trod enc Tryd.prog w 0 (fun _ => true) true fuel 32 cs = some x) (hx : ∀ k ∈ x.1.weights Tryd.prog 32, k ≤ reachBytes) :
    ∃ (f0 : Int) (f1 : ByteArray) (f2 : ByteArray) (f3 : Int) (f4 : Int) (f5 : Int) (f6 : Bool), cs = [iv f0] ++ ([.string f1] ++ ([.string f2] ++ ([iv f3] ++ ([iv f4] ++ ([iv f5] ++ ([.bool f6])))))) ∧ (-9223372036854775808 ≤ f0 ∧ f0 ≤ 9223372036854775807) ∧ f1.size ≤ 140737488355328 ∧ f2.size ≤ 140737488355328 ∧ (-9223372036854775808 ≤ f3 ∧ f3 ≤ 9223372036854775807) ∧ (-9223372036854775808 ≤ f4 ∧ f4 ≤ 9223372036854775807) ∧ (-9223372036854775808 ≤ f5 ∧ f5 ≤ 9223372036854775807) ∧ True := by
  obtain ⟨ys, k, hk, hxy, hcl, hxl, hf⟩ := DataW.trod_struct Tryd.underlying32 h
  have hcl' : cs.length = 7 := by rw [hcl]; kernel_rfl
  have hxl' : ys.length = 7 := hxl
  obtain ⟨y0, y1, y2, y3, y4, y5, y6, rfl⟩ := len7 hxl'
  have g0 := hf 0 _ rfl
  change DataW.trod enc Tryd.prog w 0 _ true k 3 ((cs.drop 0).take (Tryd.prog.cellsOf 3)) = some y0 at g0
  rw [show Tryd.prog.cellsOf 3 = 1 by kernel_rfl] at g0
  have w0 : ∀ q ∈ y0.1.weights Tryd.prog 3, q ≤ reachBytes := fun q hq => hx q (by
    rw [show x.1 = DataW.agg [y0.1, y1.1, y2.1, y3.1, y4.1, y5.1, y6.1] from congrArg Prod.fst hxy]
    simp only [DataW.weights, Tryd.underlying32, DataW.weightsEach, List.map, List.mem_append]
    exact .inl hq)
  obtain ⟨f0, e0, _, b0⟩ := DataW.trod_int Tryd.underlying3 g0
  have b0 := bounds_i64 b0
  have g1 := hf 1 _ rfl
  change DataW.trod enc Tryd.prog w 0 _ true k 9 ((cs.drop 1).take (Tryd.prog.cellsOf 9)) = some y1 at g1
  rw [show Tryd.prog.cellsOf 9 = 1 by kernel_rfl] at g1
  have w1 : ∀ q ∈ y1.1.weights Tryd.prog 9, q ≤ reachBytes := fun q hq => hx q (by
    rw [show x.1 = DataW.agg [y0.1, y1.1, y2.1, y3.1, y4.1, y5.1, y6.1] from congrArg Prod.fst hxy]
    simp only [DataW.weights, Tryd.underlying32, DataW.weightsEach, List.map, List.mem_append]
    exact .inr (.inl hq))
  obtain ⟨f1, e1, b1⟩ := fld_str g1 w1
  have g2 := hf 2 _ rfl
  change DataW.trod enc Tryd.prog w 0 _ true k 9 ((cs.drop 2).take (Tryd.prog.cellsOf 9)) = some y2 at g2
  rw [show Tryd.prog.cellsOf 9 = 1 by kernel_rfl] at g2
  have w2 : ∀ q ∈ y2.1.weights Tryd.prog 9, q ≤ reachBytes := fun q hq => hx q (by
    rw [show x.1 = DataW.agg [y0.1, y1.1, y2.1, y3.1, y4.1, y5.1, y6.1] from congrArg Prod.fst hxy]
    simp only [DataW.weights, Tryd.underlying32, DataW.weightsEach, List.map, List.mem_append]
    exact .inr (.inr (.inl hq)))
  obtain ⟨f2, e2, b2⟩ := fld_str g2 w2
  have g3 := hf 3 _ rfl
  change DataW.trod enc Tryd.prog w 0 _ true k 3 ((cs.drop 3).take (Tryd.prog.cellsOf 3)) = some y3 at g3
  rw [show Tryd.prog.cellsOf 3 = 1 by kernel_rfl] at g3
  have w3 : ∀ q ∈ y3.1.weights Tryd.prog 3, q ≤ reachBytes := fun q hq => hx q (by
    rw [show x.1 = DataW.agg [y0.1, y1.1, y2.1, y3.1, y4.1, y5.1, y6.1] from congrArg Prod.fst hxy]
    simp only [DataW.weights, Tryd.underlying32, DataW.weightsEach, List.map, List.mem_append]
    exact .inr (.inr (.inr (.inl hq))))
  obtain ⟨f3, e3, _, b3⟩ := DataW.trod_int Tryd.underlying3 g3
  have b3 := bounds_i64 b3
  have g4 := hf 4 _ rfl
  change DataW.trod enc Tryd.prog w 0 _ true k 3 ((cs.drop 4).take (Tryd.prog.cellsOf 3)) = some y4 at g4
  rw [show Tryd.prog.cellsOf 3 = 1 by kernel_rfl] at g4
  have w4 : ∀ q ∈ y4.1.weights Tryd.prog 3, q ≤ reachBytes := fun q hq => hx q (by
    rw [show x.1 = DataW.agg [y0.1, y1.1, y2.1, y3.1, y4.1, y5.1, y6.1] from congrArg Prod.fst hxy]
    simp only [DataW.weights, Tryd.underlying32, DataW.weightsEach, List.map, List.mem_append]
    exact .inr (.inr (.inr (.inr (.inl hq)))))
  obtain ⟨f4, e4, _, b4⟩ := DataW.trod_int Tryd.underlying3 g4
  have b4 := bounds_i64 b4
  have g5 := hf 5 _ rfl
  change DataW.trod enc Tryd.prog w 0 _ true k 3 ((cs.drop 5).take (Tryd.prog.cellsOf 3)) = some y5 at g5
  rw [show Tryd.prog.cellsOf 3 = 1 by kernel_rfl] at g5
  have w5 : ∀ q ∈ y5.1.weights Tryd.prog 3, q ≤ reachBytes := fun q hq => hx q (by
    rw [show x.1 = DataW.agg [y0.1, y1.1, y2.1, y3.1, y4.1, y5.1, y6.1] from congrArg Prod.fst hxy]
    simp only [DataW.weights, Tryd.underlying32, DataW.weightsEach, List.map, List.mem_append]
    exact .inr (.inr (.inr (.inr (.inr (.inl hq))))))
  obtain ⟨f5, e5, _, b5⟩ := DataW.trod_int Tryd.underlying3 g5
  have b5 := bounds_i64 b5
  have g6 := hf 6 _ rfl
  change DataW.trod enc Tryd.prog w 0 _ true k 4 ((cs.drop 6).take (Tryd.prog.cellsOf 4)) = some y6 at g6
  rw [show Tryd.prog.cellsOf 4 = 1 by kernel_rfl] at g6
  have w6 : ∀ q ∈ y6.1.weights Tryd.prog 4, q ≤ reachBytes := fun q hq => hx q (by
    rw [show x.1 = DataW.agg [y0.1, y1.1, y2.1, y3.1, y4.1, y5.1, y6.1] from congrArg Prod.fst hxy]
    simp only [DataW.weights, Tryd.underlying32, DataW.weightsEach, List.map, List.mem_append]
    exact .inr (.inr (.inr (.inr (.inr (.inr (.inl hq)))))))
  obtain ⟨f6, e6, _⟩ := DataW.trod_bool Tryd.underlying4 g6
  have b6 : True := trivial
  refine ⟨f0, f1, f2, f3, f4, f5, f6, ?_, b0, b1, b2, b3, b4, b5, b6⟩
  refine (show cs = cs.drop 0 from rfl).trans ?_
  rw [cut_at cs 0 1 1 rfl, e0]
  refine congrArg (fun z : List Value => ([iv f0] : List Value) ++ z) ?_
  rw [cut_at cs 1 1 2 rfl, e1]
  refine congrArg (fun z : List Value => ([.string f1] : List Value) ++ z) ?_
  rw [cut_at cs 2 1 3 rfl, e2]
  refine congrArg (fun z : List Value => ([.string f2] : List Value) ++ z) ?_
  rw [cut_at cs 3 1 4 rfl, e3]
  refine congrArg (fun z : List Value => ([iv f3] : List Value) ++ z) ?_
  rw [cut_at cs 4 1 5 rfl, e4]
  refine congrArg (fun z : List Value => ([iv f4] : List Value) ++ z) ?_
  rw [cut_at cs 5 1 6 rfl, e5]
  refine congrArg (fun z : List Value => ([iv f5] : List Value) ++ z) ?_
  rw [cut_last cs 6 1 hcl', e6]
/-- a call, told -/
structure ActV where
  kind : Int
  u : BA
  x : BA
  now : Int
  til : Int
  n : Int
  odd : Bool
def ActV.cells (q : ActV) : List Value := [iv q.kind, .string q.u, .string q.x, iv q.now, iv q.til, iv q.n, .bool q.odd]
def i64 (n : Int) : Prop := -9223372036854775808 ≤ n ∧ n ≤ 9223372036854775807
def ActV.ok (q : ActV) : Prop := i64 q.kind ∧ q.u.size ≤ 140737488355328 ∧ q.x.size ≤ 140737488355328 ∧ i64 q.now ∧ i64 q.til ∧ i64 q.n
instance : Inhabited ActV := ⟨⟨0, e0, e0, 0, 0, 0, false⟩⟩
theorem view_act {fuel : Nat} {xs : Array Value} {x : DataW H × List MemPlace} (h : DataW.trod enc Tryd.prog w 0 (fun _ => true) true fuel 32 (Value.agg xs).cells.toList = some x) (hw : ∀ n ∈ x.1.weights Tryd.prog 32, n ≤ reachBytes) :
    ∃ q : ActV, xs = q.cells.toArray ∧ q.ok := by
  obtain ⟨f0, f1, f2, f3, f4, f5, f6, e, b0, b1, b2, b3, b4, b5, b6⟩ := cells_act h hw
  refine ⟨⟨f0, f1, f2, f3, f4, f5, f6⟩, ?_, b0, b1, b2, b3, b4, b5⟩
  have e' : xs.toList = ActV.cells ⟨f0, f1, f2, f3, f4, f5, f6⟩ := by simpa [Value.cells, ActV.cells] using e
  rw [← e']
structure St1 where
  s : BA
def St1.cells (q : St1) : List Value := [.string q.s]
def St1.ok (q : St1) : Prop := q.s.size ≤ 140737488355328
instance : Inhabited St1 := ⟨⟨e0⟩⟩
/-- texts that came in -/
def SsR (w : World) (a : Option Addr) (len : Nat) (l : List St1) : Prop :=
  l.length = len ∧ len ≤ 140737488355328 ∧ (∀ x ∈ l, x.ok) ∧ (0 < len → ∃ b off, a = some ⟨b, off, none⟩ ∧ b < w.heap.size ∧ ∀ i x, l[i]? = some x → w.rangeAt b (off + i * 1) x.cells)
def ArgA (w : World) (a : Option Addr) (len : Nat) (l : List ActV) : Prop :=
  l.length = len ∧ len ≤ 140737488355328 ∧ (∀ x ∈ l, x.ok) ∧ (0 < len → ∃ b off, a = some ⟨b, off, none⟩ ∧ b < w.heap.size ∧ ∀ i x, l[i]? = some x → w.rangeAt b (off + i * 7) x.cells)
theorem view_strs {fuel : Nat} {a : Option Addr} {len cap : Nat} {x : DataW H × List MemPlace} (h : DataW.trod enc Tryd.prog w 0 (fun _ => true) true fuel 47 (Value.slice a len cap).cells.toList = some x) (hx : ∀ n ∈ x.1.weights Tryd.prog 47, n ≤ reachBytes) :
    ∃ l, SsR w a len l := by
  rcases open_slice Tryd.underlying47 h with ⟨hcs, _⟩ | ⟨ad, l, c, m, n, D, Pl, hcs, _, hl, hm, hmm, hd, hr⟩
  · simp [Value.cells] at hcs
    obtain ⟨rfl, rfl, rfl⟩ := hcs
    exact ⟨[], rfl, by omega, by simp, fun h => absurd h (by omega)⟩
  · simp [Value.cells] at hcs
    obtain ⟨rfl, rfl, rfl⟩ := hcs
    have hw : (len + (m - len)) * 16 ∈ x.1.weights Tryd.prog 47 := by
      rw [hd]
      simp only [DataW.weights, Tryd.underlying47]
      rw [show Tryd.prog.bytesOf 9 = 16 by kernel_rfl]
      simp
    have hsz := hx _ hw
    simp only [reachBytes] at hsz
    simp at hmm
    have ce : Tryd.prog.cellsOf 9 = 1 := by kernel_rfl
    rw [ce] at hr
    have hsp : 0 < len → ad.spot = none := fun hp => by
      obtain ⟨cs, h1, _⟩ := hr 0 (by omega)
      obtain ⟨_, hlen, hcell⟩ := World.cells?_some h1
      have h0 := hcell 0 (by omega)
      rw [List.getElem?_eq_getElem (by omega)] at h0
      have := World.cell?_spot h0
      simpa [Addr.add] using this
    have each : ∀ i, i < len → ∃ x : St1, x.ok ∧ ∃ b off, ad = ⟨b, off, none⟩ ∧ b < w.heap.size ∧ w.rangeAt b (off + i * 1) x.cells := by
      intro i hi
      obtain ⟨cs, h1, h2⟩ := hr i (by omega)
      obtain ⟨_, hlen, hcell⟩ := World.cells?_some h1
      have hmem : ∀ q ∈ (D i, Pl i).1.weights Tryd.prog 9, q ≤ reachBytes := fun q hq => by
        refine hx q ?_
        rw [hd]
        simp only [DataW.weights, Tryd.underlying47]
        exact List.mem_cons.2 (.inr (List.mem_append.2 (.inl (mem_weightsAll hq (List.mem_map.2 ⟨i, List.mem_range.2 hi, rfl⟩)))))
      obtain ⟨f0, e, b0⟩ := fld_str (x := (D i, Pl i)) h2 hmem
      have e' : cs = St1.cells ⟨f0⟩ := by simpa [St1.cells] using e
      subst e'
      obtain ⟨b, off, spot⟩ := ad
      have hs := hsp (by omega)
      simp only at hs
      subst hs
      have hc0 := hcell 0 (by omega)
      rw [Addr.add_lit, Addr.add_lit] at hc0
      refine ⟨⟨f0⟩, b0, b, off, rfl, ?_, ?_⟩
      · have := World.block_lt_of_cell? w _ hc0
        simpa using this
      · intro j v hj
        have hj5 := (List.getElem?_eq_some_iff.1 hj).1
        have := hcell j (by omega)
        rw [Addr.add_lit, Addr.add_lit] at this
        rw [← hj]
        exact this
    have hsame : ∀ r ∈ (List.range len).map fun i => if h : i < len then (each i h).choose else default, r.ok := by
      intro r hr
      obtain ⟨i, hi, rfl⟩ := List.mem_map.1 hr
      have hlt := List.mem_range.1 hi
      rw [dif_pos hlt]
      exact (each i hlt).choose_spec.1
    have hrow : 0 < len → ∃ b off, some ad = some ⟨b, off, none⟩ ∧ b < w.heap.size ∧ ∀ i x, ((List.range len).map fun i => if h : i < len then (each i h).choose else default)[i]? = some x → w.rangeAt b (off + i * 1) x.cells := fun hp => by
      obtain ⟨_, _, b, off, e1, e2, _⟩ := each 0 hp
      refine ⟨b, off, by rw [e1], e2, fun i x hx => ?_⟩
      have hlt : i < len := by
        have := (List.getElem?_eq_some_iff.1 hx).1
        simpa using this
      have e : (each i hlt).choose = x := by simpa [List.getElem?_map, List.getElem?_range hlt, hlt] using hx
      obtain ⟨_, b', off', e3, _, e5⟩ := (each i hlt).choose_spec
      rw [e1] at e3
      cases e3
      rw [e] at e5
      exact e5
    exact ⟨_, by simp, by omega, hsame, hrow⟩
theorem view_acts {fuel : Nat} {a : Option Addr} {len cap : Nat} {x : DataW H × List MemPlace} (h : DataW.trod enc Tryd.prog w 0 (fun _ => true) true fuel 23 (Value.slice a len cap).cells.toList = some x) (hx : ∀ n ∈ x.1.weights Tryd.prog 23, n ≤ reachBytes) :
    ∃ l, ArgA w a len l := by
  rcases open_slice Tryd.underlying23 h with ⟨hcs, _⟩ | ⟨ad, l, c, m, n, D, Pl, hcs, _, hl, hm, hmm, hd, hr⟩
  · simp [Value.cells] at hcs
    obtain ⟨rfl, rfl, rfl⟩ := hcs
    exact ⟨[], rfl, by omega, by simp, fun h => absurd h (by omega)⟩
  · simp [Value.cells] at hcs
    obtain ⟨rfl, rfl, rfl⟩ := hcs
    have hw : (len + (m - len)) * 72 ∈ x.1.weights Tryd.prog 23 := by
      rw [hd]
      simp only [DataW.weights, Tryd.underlying23]
      rw [show Tryd.prog.bytesOf 32 = 72 by kernel_rfl]
      simp
    have hsz := hx _ hw
    simp only [reachBytes] at hsz
    simp at hmm
    have ce : Tryd.prog.cellsOf 32 = 7 := by kernel_rfl
    rw [ce] at hr
    have hsp : 0 < len → ad.spot = none := fun hp => by
      obtain ⟨cs, h1, _⟩ := hr 0 (by omega)
      obtain ⟨_, hlen, hcell⟩ := World.cells?_some h1
      have h0 := hcell 0 (by omega)
      rw [List.getElem?_eq_getElem (by omega)] at h0
      have := World.cell?_spot h0
      simpa [Addr.add] using this
    have each : ∀ i, i < len → ∃ x : ActV, x.ok ∧ ∃ b off, ad = ⟨b, off, none⟩ ∧ b < w.heap.size ∧ w.rangeAt b (off + i * 7) x.cells := by
      intro i hi
      obtain ⟨cs, h1, h2⟩ := hr i (by omega)
      obtain ⟨_, hlen, hcell⟩ := World.cells?_some h1
      have hmem : ∀ q ∈ (D i, Pl i).1.weights Tryd.prog 32, q ≤ reachBytes := fun q hq => by
        refine hx q ?_
        rw [hd]
        simp only [DataW.weights, Tryd.underlying23]
        exact List.mem_cons.2 (.inr (List.mem_append.2 (.inl (mem_weightsAll hq (List.mem_map.2 ⟨i, List.mem_range.2 hi, rfl⟩)))))
      obtain ⟨f0, f1, f2, f3, f4, f5, f6, e, b0, b1, b2, b3, b4, b5, b6⟩ := cells_act (x := (D i, Pl i)) h2 hmem
      have e' : cs = ActV.cells ⟨f0, f1, f2, f3, f4, f5, f6⟩ := by simpa [ActV.cells] using e
      subst e'
      obtain ⟨b, off, spot⟩ := ad
      have hs := hsp (by omega)
      simp only at hs
      subst hs
      have hc0 := hcell 0 (by omega)
      rw [Addr.add_lit, Addr.add_lit] at hc0
      refine ⟨⟨f0, f1, f2, f3, f4, f5, f6⟩, ⟨b0, b1, b2, b3, b4, b5⟩, b, off, rfl, ?_, ?_⟩
      · have := World.block_lt_of_cell? w _ hc0
        simpa using this
      · intro j v hj
        have hj5 := (List.getElem?_eq_some_iff.1 hj).1
        have := hcell j (by omega)
        rw [Addr.add_lit, Addr.add_lit] at this
        rw [← hj]
        exact this
    have hsame : ∀ r ∈ (List.range len).map fun i => if h : i < len then (each i h).choose else default, r.ok := by
      intro r hr
      obtain ⟨i, hi, rfl⟩ := List.mem_map.1 hr
      have hlt := List.mem_range.1 hi
      rw [dif_pos hlt]
      exact (each i hlt).choose_spec.1
    have hrow : 0 < len → ∃ b off, some ad = some ⟨b, off, none⟩ ∧ b < w.heap.size ∧ ∀ i x, ((List.range len).map fun i => if h : i < len then (each i h).choose else default)[i]? = some x → w.rangeAt b (off + i * 7) x.cells := fun hp => by
      obtain ⟨_, _, b, off, e1, e2, _⟩ := each 0 hp
      refine ⟨b, off, by rw [e1], e2, fun i x hx => ?_⟩
      have hlt : i < len := by
        have := (List.getElem?_eq_some_iff.1 hx).1
        simpa using this
      have e : (each i hlt).choose = x := by simpa [List.getElem?_map, List.getElem?_range hlt, hlt] using hx
      obtain ⟨_, b', off', e3, _, e5⟩ := (each i hlt).choose_spec
      rw [e1] at e3
      cases e3
      rw [e] at e5
      exact e5
    exact ⟨_, by simp, by omega, hsame, hrow⟩
end
#print axioms view_acts
end Go.Proofs.YtjeahlfmapacfaaDoor.Oct
