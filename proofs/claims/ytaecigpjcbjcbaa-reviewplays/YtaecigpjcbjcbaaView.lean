/-
  Layer 20 (review): the laws' arguments.
-/
import Derived.Test.YtaecigpjcbjcbaaLiv
import Derived.Deep.Slices
import Derived.ProofKit
import Derived.SizedLaws
import Derived.ChangeSame
import Derived.OpenShut
import Derived.ShutString
import Derived.ChangeOld
namespace Go.Proofs.Ytaecigpjcbjcbaa.Oct
open Go.RowKit Go.ChangeShapes Go.WideShapes Go.ChangeAt Go.Deep
set_option linter.unusedSimpArgs false
set_option linter.unusedVariables false
set_option maxRecDepth 100000

theorem len2 {α : Type} {l : List α} (h : l.length = 2) : ∃ a0 a1, l = [a0, a1] := by
  rcases l with _ | ⟨a0, _ | ⟨a1, _ | ⟨z, l⟩⟩⟩ <;> simp at h
  exact ⟨a0, a1, rfl⟩
theorem len6 {α : Type} {l : List α} (h : l.length = 6) : ∃ a0 a1 a2 a3 a4 a5, l = [a0, a1, a2, a3, a4, a5] := by
  rcases l with _ | ⟨a0, _ | ⟨a1, _ | ⟨a2, _ | ⟨a3, _ | ⟨a4, _ | ⟨a5, _ | ⟨z, l⟩⟩⟩⟩⟩⟩⟩ <;> simp at h
  exact ⟨a0, a1, a2, a3, a4, a5, rfl⟩
theorem len8 {α : Type} {l : List α} (h : l.length = 8) : ∃ a0 a1 a2 a3 a4 a5 a6 a7, l = [a0, a1, a2, a3, a4, a5, a6, a7] := by
  rcases l with _ | ⟨a0, _ | ⟨a1, _ | ⟨a2, _ | ⟨a3, _ | ⟨a4, _ | ⟨a5, _ | ⟨a6, _ | ⟨a7, _ | ⟨z, l⟩⟩⟩⟩⟩⟩⟩⟩⟩ <;> simp at h
  exact ⟨a0, a1, a2, a3, a4, a5, a6, a7, rfl⟩
theorem cut_at (cs : List Value) (a n b : Nat) (h : a + n = b) : cs.drop a = (cs.drop a).take n ++ cs.drop b := by
  subst h
  rw [← List.drop_drop, List.take_append_drop]
theorem cut_last (cs : List Value) (a n : Nat) (h : cs.length = a + n) : cs.drop a = (cs.drop a).take n := by
  rw [List.take_of_length_le (by rw [List.length_drop]; omega)]
theorem mem_weightsAll {H : Type} {P : Program} {e : TypeId} {d : DataW H} {n : Nat} (hn : n ∈ d.weights P e) : ∀ {ds : List (DataW H)}, d ∈ ds → n ∈ DataW.weightsAll P e ds
  | [], h => by cases h
  | d0 :: r, h => by
    simp only [DataW.weightsAll, List.mem_append]
    rcases List.mem_cons.1 h with rfl | h
    · exact .inl hn
    · exact .inr (mem_weightsAll hn h)

section
variable {H : Type} {enc : TypeId × Value → H} {w : World}
theorem view_hash {n : Nat} {cs : List Value} {x : DataW H × List MemPlace} (h : DataW.trod enc Try.prog w 0 (fun _ => true) true n 32 cs = some x) : ∃ hh : Hs, hh.length = 32 ∧ cs = U hh := by
  obtain ⟨xs, m, _, _, hl, hxl, hf⟩ := DataW.trod_array Try.underlying32 h
  have hl' : cs.length = 32 := by rw [hl]; kernel_rfl
  have c5 : Try.prog.cellsOf 5 = 1 := by kernel_rfl
  rw [c5] at hf
  have each : ∀ i, i < 32 → ∃ c : UInt8, cs[i]? = some (.int .u8 (c.toNat : Int)) := by
    intro i hi
    have h1 := hf i hi
    rw [List.getElem?_eq_getElem (by omega)] at h1
    obtain ⟨k, hk, _, hw⟩ := DataW.trod_int Try.underlying5 h1
    have hb := bounds_u8 hw
    refine ⟨UInt8.ofNat k.toNat, ?_⟩
    have : cs[i]? = some (.int .u8 k) := by
      rw [Nat.mul_one] at hk
      have := congrArg (·[0]?) hk
      simpa [List.getElem?_take, List.getElem?_drop] using this
    rw [this, UInt8.toNat_ofNat']
    congr 2
    omega
  obtain ⟨G, hG⟩ := choose_lt each
  refine ⟨(List.range 32).map G, by simp, ?_⟩
  apply List.ext_getElem?
  intro i
  by_cases hi : i < 32
  · rw [hG i hi]; simp [U, hi]
  · rw [List.getElem?_eq_none (by omega), List.getElem?_eq_none (by simp [U]; omega)]
#print axioms view_hash
/-- cells that were read are a range -/
theorem range_of_cells {b off n : Nat} {cs : List Value} (h : w.cells? 0 ⟨b, off, none⟩ n = some cs) : w.rangeAt b off cs := by
  obtain ⟨_, hlen, hcell⟩ := World.cells?_some h
  intro j v hj
  have hlt := (List.getElem?_eq_some_iff.1 hj).1
  have := hcell j (by omega)
  rw [Addr.add_lit] at this
  rw [← hj]
  exact this
/-- hashes that were read -/
theorem fld_str {n : Nat} {cs : List Value} {x : DataW H × List MemPlace} (h : DataW.trod enc Try.prog w 0 (fun _ => true) true n 9 cs = some x) (hx : ∀ k ∈ x.1.weights Try.prog 9, k ≤ reachBytes) :
    ∃ s : ByteArray, cs = [.string s] ∧ s.size ≤ 140737488355328 := by
  obtain ⟨s, hs, hd, _⟩ := DataW.trod_string Try.underlying9 h
  refine ⟨s, by simpa using hs, ?_⟩
  have hmem : s.size ∈ x.1.weights Try.prog 9 := by
    rw [hd]
    simp [DataW.weights]
  have := hx _ hmem
  simp only [reachBytes] at this
  omega
theorem field_str {n : Nat} {v : Value} {x : DataW H × List MemPlace} (h : DataW.trod enc Try.prog w 0 (fun _ => true) true n 9 [v] = some x) (hx : ∀ k ∈ x.1.weights Try.prog 9, k ≤ reachBytes) :
    ∃ s : ByteArray, v = .string s ∧ s.size ≤ 140737488355328 := by
  obtain ⟨s, hs, hb⟩ := fld_str h hx
  exact ⟨s, by simpa using hs, hb⟩
theorem field_strs2 {n : Nat} {v : Value} {x : DataW H × List MemPlace} (h : DataW.trod enc Try.prog w 0 (fun _ => true) true n 40 [v] = some x) (hx : ∀ k ∈ x.1.weights Try.prog 40, k ≤ reachBytes) :
    ∃ a m c l, v = .slice a m c ∧ Strs w a m l ∧ m ≤ 8796093022208 ∧ ∀ t ∈ l, t.size ≤ 140737488355328 := by
  rcases open_slice Try.underlying40 h with ⟨hcs, _⟩ | ⟨ad, len, c, m, k, D, Pl, hcs, _, hl, hm, hmm, hd, hr⟩
  · simp at hcs
    subst hcs
    exact ⟨none, 0, 0, [], rfl, ⟨rfl, fun h => absurd h (by omega)⟩, by omega, by simp⟩
  · simp at hcs
    subst hcs
    have hw : (len + (m - len)) * 16 ∈ x.1.weights Try.prog 40 := by
      rw [hd]
      simp only [DataW.weights, Try.underlying40]
      rw [show Try.prog.bytesOf 9 = 16 by kernel_rfl]
      simp
    have hsz := hx _ hw
    simp only [reachBytes] at hsz
    simp at hmm
    have ce : Try.prog.cellsOf 9 = 1 := by kernel_rfl
    rw [ce] at hr
    have hsp : 0 < len → ad.spot = none := fun hp => by
      obtain ⟨cs, h1, _⟩ := hr 0 (by omega)
      obtain ⟨_, hlen, hcell⟩ := World.cells?_some h1
      have h0 := hcell 0 (by omega)
      rw [List.getElem?_eq_getElem (by omega)] at h0
      have := World.cell?_spot h0
      simpa [Addr.add] using this
    have each : ∀ i, i < len → ∃ x : ByteArray, x.size ≤ 140737488355328 ∧ ∃ b off, ad = ⟨b, off, none⟩ ∧ b < w.heap.size ∧ w.cell? ⟨b, off + i, none⟩ = some (.string x) := by
      intro i hi
      obtain ⟨cs, h1, h2⟩ := hr i (by omega)
      obtain ⟨_, hlen, hcell⟩ := World.cells?_some h1
      obtain ⟨v0, rfl⟩ : ∃ v0, cs = [v0] := by
        rcases cs with _ | ⟨v0, _ | ⟨z, l⟩⟩ <;> simp at hlen
        exact ⟨v0, rfl⟩
      have hmem : ∀ q ∈ (D i, Pl i).1.weights Try.prog 9, q ≤ reachBytes := fun q hq => by
        refine hx q ?_
        rw [hd]
        simp only [DataW.weights, Try.underlying40]
        exact List.mem_cons.2 (.inr (List.mem_append.2 (.inl (mem_weightsAll hq (List.mem_map.2 ⟨i, List.mem_range.2 hi, rfl⟩)))))
      obtain ⟨t, et, bt⟩ := field_str h2 hmem
      subst et
      obtain ⟨b, off, spot⟩ := ad
      have hs := hsp (by omega)
      simp only at hs
      subst hs
      have hc0 := hcell 0 (by omega)
      rw [Addr.add_lit, Addr.add_lit] at hc0
      have hc1 : w.cell? ⟨b, off + i, none⟩ = some (.string t) := by simpa using hc0
      exact ⟨t, bt, b, off, rfl, World.block_lt_of_cell? w _ hc1, hc1⟩
    refine ⟨some ad, len, c, (List.range len).map fun i => if h : i < len then (each i h).choose else default, rfl, ⟨by simp, fun hp => ?_⟩, by omega, ?_⟩
    · obtain ⟨_, _, b, off, e1, e2, _⟩ := each 0 hp
      refine ⟨b, off, by rw [e1], e2, fun i x hx => ?_⟩
      have hlt : i < len := by
        have := (List.getElem?_eq_some_iff.1 hx).1
        simpa using this
      rw [List.getElem?_map, List.getElem?_range hlt, Option.map_some, dif_pos hlt, Option.some.injEq] at hx
      subst hx
      obtain ⟨_, b', off', e3, e4, e5⟩ := (each i hlt).choose_spec
      rw [e1] at e3
      cases e3
      exact e5
    · intro t ht
      obtain ⟨i, hi, rfl⟩ := List.mem_map.1 ht
      have hlt := List.mem_range.1 hi
      rw [dif_pos hlt]
      exact (each i hlt).choose_spec.1
theorem fld_any {t e : TypeId} (ht : Try.prog.underlying t = some (.slice e)) {n : Nat} {cs : List Value} {x : DataW H × List MemPlace} (h : DataW.trod enc Try.prog w 0 (fun _ => true) true n t cs = some x) : ∃ s : Sl, cs = [.slice s.a s.n s.c] := by
  rcases open_slice ht h with ⟨hcs, _⟩ | ⟨ad, l, c, m, k, D, Pl, hcs, _⟩
  · exact ⟨⟨none, 0, 0⟩, hcs⟩
  · exact ⟨⟨_, _, _⟩, hcs⟩
theorem fld_strs {n : Nat} {cs : List Value} {x : DataW H × List MemPlace} (h : DataW.trod enc Try.prog w 0 (fun _ => true) true n 40 cs = some x) (hx : ∀ k ∈ x.1.weights Try.prog 40, k ≤ reachBytes) :
    ∃ (s : Sl) (l : List ByteArray), cs = [.slice s.a s.n s.c] ∧ Txt w s l := by
  obtain ⟨s, rfl⟩ := fld_any Try.underlying40 h
  obtain ⟨a, m, c, l, hv, h1, h2, h3⟩ := field_strs2 h hx
  cases hv
  exact ⟨s, l, rfl, h1, by omega, h3⟩
theorem cells_pp {fuel : Nat} {cs : List Value} {x : DataW H × List MemPlace} (h : DataW.trod enc Try.prog w 0 (fun _ => true) true fuel 43 cs = some x) (hx : ∀ k ∈ x.1.weights Try.prog 43, k ≤ reachBytes) :
    ∃ (f0 : Int) (f1 : ByteArray) (f2 : ByteArray) (f3 : Hs) (f4 : Bool) (f5 : Sl) (l5 : List ByteArray) (f6 : Sl) (l6 : List ByteArray) (f7 : Sl), cs = [iv f0] ++ ([.string f1] ++ ([.string f2] ++ (U f3 ++ ([.bool f4] ++ ([.slice f5.a f5.n f5.c] ++ ([.slice f6.a f6.n f6.c] ++ ([.slice f7.a f7.n f7.c]))))))) ∧ (-9223372036854775808 ≤ f0 ∧ f0 ≤ 9223372036854775807) ∧ f1.size ≤ 140737488355328 ∧ f2.size ≤ 140737488355328 ∧ f3.length = 32 ∧ True ∧ Txt w f5 l5 ∧ Txt w f6 l6 ∧ True := by
  obtain ⟨ys, k, hk, hxy, hcl, hxl, hf⟩ := DataW.trod_struct Try.underlying43 h
  have hcl' : cs.length = 39 := by rw [hcl]; kernel_rfl
  have hxl' : ys.length = 8 := hxl
  obtain ⟨y0, y1, y2, y3, y4, y5, y6, y7, rfl⟩ := len8 hxl'
  have g0 := hf 0 _ rfl
  change DataW.trod enc Try.prog w 0 _ true k 3 ((cs.drop 0).take (Try.prog.cellsOf 3)) = some y0 at g0
  rw [show Try.prog.cellsOf 3 = 1 by kernel_rfl] at g0
  have w0 : ∀ q ∈ y0.1.weights Try.prog 3, q ≤ reachBytes := fun q hq => hx q (by
    rw [show x.1 = DataW.agg [y0.1, y1.1, y2.1, y3.1, y4.1, y5.1, y6.1, y7.1] from congrArg Prod.fst hxy]
    simp only [DataW.weights, Try.underlying43, DataW.weightsEach, List.map, List.mem_append]
    exact .inl hq)
  obtain ⟨f0, e0, _, b0⟩ := DataW.trod_int Try.underlying3 g0
  have b0 := bounds_i64 b0
  have g1 := hf 1 _ rfl
  change DataW.trod enc Try.prog w 0 _ true k 9 ((cs.drop 1).take (Try.prog.cellsOf 9)) = some y1 at g1
  rw [show Try.prog.cellsOf 9 = 1 by kernel_rfl] at g1
  have w1 : ∀ q ∈ y1.1.weights Try.prog 9, q ≤ reachBytes := fun q hq => hx q (by
    rw [show x.1 = DataW.agg [y0.1, y1.1, y2.1, y3.1, y4.1, y5.1, y6.1, y7.1] from congrArg Prod.fst hxy]
    simp only [DataW.weights, Try.underlying43, DataW.weightsEach, List.map, List.mem_append]
    exact .inr (.inl hq))
  obtain ⟨f1, e1, b1⟩ := fld_str g1 w1
  have g2 := hf 2 _ rfl
  change DataW.trod enc Try.prog w 0 _ true k 9 ((cs.drop 2).take (Try.prog.cellsOf 9)) = some y2 at g2
  rw [show Try.prog.cellsOf 9 = 1 by kernel_rfl] at g2
  have w2 : ∀ q ∈ y2.1.weights Try.prog 9, q ≤ reachBytes := fun q hq => hx q (by
    rw [show x.1 = DataW.agg [y0.1, y1.1, y2.1, y3.1, y4.1, y5.1, y6.1, y7.1] from congrArg Prod.fst hxy]
    simp only [DataW.weights, Try.underlying43, DataW.weightsEach, List.map, List.mem_append]
    exact .inr (.inr (.inl hq)))
  obtain ⟨f2, e2, b2⟩ := fld_str g2 w2
  have g3 := hf 3 _ rfl
  change DataW.trod enc Try.prog w 0 _ true k 32 ((cs.drop 3).take (Try.prog.cellsOf 32)) = some y3 at g3
  rw [show Try.prog.cellsOf 32 = 32 by kernel_rfl] at g3
  have w3 : ∀ q ∈ y3.1.weights Try.prog 32, q ≤ reachBytes := fun q hq => hx q (by
    rw [show x.1 = DataW.agg [y0.1, y1.1, y2.1, y3.1, y4.1, y5.1, y6.1, y7.1] from congrArg Prod.fst hxy]
    simp only [DataW.weights, Try.underlying43, DataW.weightsEach, List.map, List.mem_append]
    exact .inr (.inr (.inr (.inl hq))))
  obtain ⟨f3, b3, e3⟩ := view_hash g3
  have g4 := hf 4 _ rfl
  change DataW.trod enc Try.prog w 0 _ true k 4 ((cs.drop 35).take (Try.prog.cellsOf 4)) = some y4 at g4
  rw [show Try.prog.cellsOf 4 = 1 by kernel_rfl] at g4
  have w4 : ∀ q ∈ y4.1.weights Try.prog 4, q ≤ reachBytes := fun q hq => hx q (by
    rw [show x.1 = DataW.agg [y0.1, y1.1, y2.1, y3.1, y4.1, y5.1, y6.1, y7.1] from congrArg Prod.fst hxy]
    simp only [DataW.weights, Try.underlying43, DataW.weightsEach, List.map, List.mem_append]
    exact .inr (.inr (.inr (.inr (.inl hq)))))
  obtain ⟨f4, e4, _⟩ := DataW.trod_bool Try.underlying4 g4
  have b4 : True := trivial
  have g5 := hf 5 _ rfl
  change DataW.trod enc Try.prog w 0 _ true k 40 ((cs.drop 36).take (Try.prog.cellsOf 40)) = some y5 at g5
  rw [show Try.prog.cellsOf 40 = 1 by kernel_rfl] at g5
  have w5 : ∀ q ∈ y5.1.weights Try.prog 40, q ≤ reachBytes := fun q hq => hx q (by
    rw [show x.1 = DataW.agg [y0.1, y1.1, y2.1, y3.1, y4.1, y5.1, y6.1, y7.1] from congrArg Prod.fst hxy]
    simp only [DataW.weights, Try.underlying43, DataW.weightsEach, List.map, List.mem_append]
    exact .inr (.inr (.inr (.inr (.inr (.inl hq))))))
  obtain ⟨f5, l5, e5, b5⟩ := fld_strs g5 w5
  have g6 := hf 6 _ rfl
  change DataW.trod enc Try.prog w 0 _ true k 40 ((cs.drop 37).take (Try.prog.cellsOf 40)) = some y6 at g6
  rw [show Try.prog.cellsOf 40 = 1 by kernel_rfl] at g6
  have w6 : ∀ q ∈ y6.1.weights Try.prog 40, q ≤ reachBytes := fun q hq => hx q (by
    rw [show x.1 = DataW.agg [y0.1, y1.1, y2.1, y3.1, y4.1, y5.1, y6.1, y7.1] from congrArg Prod.fst hxy]
    simp only [DataW.weights, Try.underlying43, DataW.weightsEach, List.map, List.mem_append]
    exact .inr (.inr (.inr (.inr (.inr (.inr (.inl hq)))))))
  obtain ⟨f6, l6, e6, b6⟩ := fld_strs g6 w6
  have g7 := hf 7 _ rfl
  change DataW.trod enc Try.prog w 0 _ true k 41 ((cs.drop 38).take (Try.prog.cellsOf 41)) = some y7 at g7
  rw [show Try.prog.cellsOf 41 = 1 by kernel_rfl] at g7
  have w7 : ∀ q ∈ y7.1.weights Try.prog 41, q ≤ reachBytes := fun q hq => hx q (by
    rw [show x.1 = DataW.agg [y0.1, y1.1, y2.1, y3.1, y4.1, y5.1, y6.1, y7.1] from congrArg Prod.fst hxy]
    simp only [DataW.weights, Try.underlying43, DataW.weightsEach, List.map, List.mem_append]
    exact .inr (.inr (.inr (.inr (.inr (.inr (.inr (.inl hq))))))))
  obtain ⟨f7, e7⟩ := fld_any Try.underlying41 g7
  have b7 : True := trivial
  refine ⟨f0, f1, f2, f3, f4, f5, l5, f6, l6, f7, ?_, b0, b1, b2, b3, b4, b5, b6, b7⟩
  refine (show cs = cs.drop 0 from rfl).trans ?_
  rw [cut_at cs 0 1 1 rfl, e0]
  refine congrArg (fun z : List Value => ([iv f0] : List Value) ++ z) ?_
  rw [cut_at cs 1 1 2 rfl, e1]
  refine congrArg (fun z : List Value => ([.string f1] : List Value) ++ z) ?_
  rw [cut_at cs 2 1 3 rfl, e2]
  refine congrArg (fun z : List Value => ([.string f2] : List Value) ++ z) ?_
  rw [cut_at cs 3 32 35 rfl, e3]
  refine congrArg (fun z : List Value => (U f3 : List Value) ++ z) ?_
  rw [cut_at cs 35 1 36 rfl, e4]
  refine congrArg (fun z : List Value => ([.bool f4] : List Value) ++ z) ?_
  rw [cut_at cs 36 1 37 rfl, e5]
  refine congrArg (fun z : List Value => ([.slice f5.a f5.n f5.c] : List Value) ++ z) ?_
  rw [cut_at cs 37 1 38 rfl, e6]
  refine congrArg (fun z : List Value => ([.slice f6.a f6.n f6.c] : List Value) ++ z) ?_
  rw [cut_last cs 38 1 hcl', e7]
theorem cells_po {fuel : Nat} {cs : List Value} {x : DataW H × List MemPlace} (h : DataW.trod enc Try.prog w 0 (fun _ => true) true fuel 52 cs = some x) (hx : ∀ k ∈ x.1.weights Try.prog 52, k ≤ reachBytes) :
    ∃ (f0 : Int) (f1 : Bool), cs = [iv f0] ++ ([.bool f1]) ∧ (-9223372036854775808 ≤ f0 ∧ f0 ≤ 9223372036854775807) ∧ True := by
  obtain ⟨ys, k, hk, hxy, hcl, hxl, hf⟩ := DataW.trod_struct Try.underlying52 h
  have hcl' : cs.length = 2 := by rw [hcl]; kernel_rfl
  have hxl' : ys.length = 2 := hxl
  obtain ⟨y0, y1, rfl⟩ := len2 hxl'
  have g0 := hf 0 _ rfl
  change DataW.trod enc Try.prog w 0 _ true k 3 ((cs.drop 0).take (Try.prog.cellsOf 3)) = some y0 at g0
  rw [show Try.prog.cellsOf 3 = 1 by kernel_rfl] at g0
  have w0 : ∀ q ∈ y0.1.weights Try.prog 3, q ≤ reachBytes := fun q hq => hx q (by
    rw [show x.1 = DataW.agg [y0.1, y1.1] from congrArg Prod.fst hxy]
    simp only [DataW.weights, Try.underlying52, DataW.weightsEach, List.map, List.mem_append]
    exact .inl hq)
  obtain ⟨f0, e0, _, b0⟩ := DataW.trod_int Try.underlying3 g0
  have b0 := bounds_i64 b0
  have g1 := hf 1 _ rfl
  change DataW.trod enc Try.prog w 0 _ true k 4 ((cs.drop 1).take (Try.prog.cellsOf 4)) = some y1 at g1
  rw [show Try.prog.cellsOf 4 = 1 by kernel_rfl] at g1
  have w1 : ∀ q ∈ y1.1.weights Try.prog 4, q ≤ reachBytes := fun q hq => hx q (by
    rw [show x.1 = DataW.agg [y0.1, y1.1] from congrArg Prod.fst hxy]
    simp only [DataW.weights, Try.underlying52, DataW.weightsEach, List.map, List.mem_append]
    exact .inr (.inl hq))
  obtain ⟨f1, e1, _⟩ := DataW.trod_bool Try.underlying4 g1
  have b1 : True := trivial
  refine ⟨f0, f1, ?_, b0, b1⟩
  refine (show cs = cs.drop 0 from rfl).trans ?_
  rw [cut_at cs 0 1 1 rfl, e0]
  refine congrArg (fun z : List Value => ([iv f0] : List Value) ++ z) ?_
  rw [cut_last cs 1 1 hcl', e1]
theorem cells_act {fuel : Nat} {cs : List Value} {x : DataW H × List MemPlace} (h : DataW.trod enc Try.prog w 0 (fun _ => true) true fuel 34 cs = some x) (hx : ∀ k ∈ x.1.weights Try.prog 34, k ≤ reachBytes) :
    ∃ (f0 : Int) (f1 : Int) (f2 : ByteArray) (f3 : ByteArray) (f4 : Hs) (f5 : Bool), cs = [iv f0] ++ ([iv f1] ++ ([.string f2] ++ ([.string f3] ++ (U f4 ++ ([.bool f5]))))) ∧ (-9223372036854775808 ≤ f0 ∧ f0 ≤ 9223372036854775807) ∧ (-9223372036854775808 ≤ f1 ∧ f1 ≤ 9223372036854775807) ∧ f2.size ≤ 140737488355328 ∧ f3.size ≤ 140737488355328 ∧ f4.length = 32 ∧ True := by
  obtain ⟨ys, k, hk, hxy, hcl, hxl, hf⟩ := DataW.trod_struct Try.underlying34 h
  have hcl' : cs.length = 37 := by rw [hcl]; kernel_rfl
  have hxl' : ys.length = 6 := hxl
  obtain ⟨y0, y1, y2, y3, y4, y5, rfl⟩ := len6 hxl'
  have g0 := hf 0 _ rfl
  change DataW.trod enc Try.prog w 0 _ true k 3 ((cs.drop 0).take (Try.prog.cellsOf 3)) = some y0 at g0
  rw [show Try.prog.cellsOf 3 = 1 by kernel_rfl] at g0
  have w0 : ∀ q ∈ y0.1.weights Try.prog 3, q ≤ reachBytes := fun q hq => hx q (by
    rw [show x.1 = DataW.agg [y0.1, y1.1, y2.1, y3.1, y4.1, y5.1] from congrArg Prod.fst hxy]
    simp only [DataW.weights, Try.underlying34, DataW.weightsEach, List.map, List.mem_append]
    exact .inl hq)
  obtain ⟨f0, e0, _, b0⟩ := DataW.trod_int Try.underlying3 g0
  have b0 := bounds_i64 b0
  have g1 := hf 1 _ rfl
  change DataW.trod enc Try.prog w 0 _ true k 3 ((cs.drop 1).take (Try.prog.cellsOf 3)) = some y1 at g1
  rw [show Try.prog.cellsOf 3 = 1 by kernel_rfl] at g1
  have w1 : ∀ q ∈ y1.1.weights Try.prog 3, q ≤ reachBytes := fun q hq => hx q (by
    rw [show x.1 = DataW.agg [y0.1, y1.1, y2.1, y3.1, y4.1, y5.1] from congrArg Prod.fst hxy]
    simp only [DataW.weights, Try.underlying34, DataW.weightsEach, List.map, List.mem_append]
    exact .inr (.inl hq))
  obtain ⟨f1, e1, _, b1⟩ := DataW.trod_int Try.underlying3 g1
  have b1 := bounds_i64 b1
  have g2 := hf 2 _ rfl
  change DataW.trod enc Try.prog w 0 _ true k 9 ((cs.drop 2).take (Try.prog.cellsOf 9)) = some y2 at g2
  rw [show Try.prog.cellsOf 9 = 1 by kernel_rfl] at g2
  have w2 : ∀ q ∈ y2.1.weights Try.prog 9, q ≤ reachBytes := fun q hq => hx q (by
    rw [show x.1 = DataW.agg [y0.1, y1.1, y2.1, y3.1, y4.1, y5.1] from congrArg Prod.fst hxy]
    simp only [DataW.weights, Try.underlying34, DataW.weightsEach, List.map, List.mem_append]
    exact .inr (.inr (.inl hq)))
  obtain ⟨f2, e2, b2⟩ := fld_str g2 w2
  have g3 := hf 3 _ rfl
  change DataW.trod enc Try.prog w 0 _ true k 9 ((cs.drop 3).take (Try.prog.cellsOf 9)) = some y3 at g3
  rw [show Try.prog.cellsOf 9 = 1 by kernel_rfl] at g3
  have w3 : ∀ q ∈ y3.1.weights Try.prog 9, q ≤ reachBytes := fun q hq => hx q (by
    rw [show x.1 = DataW.agg [y0.1, y1.1, y2.1, y3.1, y4.1, y5.1] from congrArg Prod.fst hxy]
    simp only [DataW.weights, Try.underlying34, DataW.weightsEach, List.map, List.mem_append]
    exact .inr (.inr (.inr (.inl hq))))
  obtain ⟨f3, e3, b3⟩ := fld_str g3 w3
  have g4 := hf 4 _ rfl
  change DataW.trod enc Try.prog w 0 _ true k 32 ((cs.drop 4).take (Try.prog.cellsOf 32)) = some y4 at g4
  rw [show Try.prog.cellsOf 32 = 32 by kernel_rfl] at g4
  have w4 : ∀ q ∈ y4.1.weights Try.prog 32, q ≤ reachBytes := fun q hq => hx q (by
    rw [show x.1 = DataW.agg [y0.1, y1.1, y2.1, y3.1, y4.1, y5.1] from congrArg Prod.fst hxy]
    simp only [DataW.weights, Try.underlying34, DataW.weightsEach, List.map, List.mem_append]
    exact .inr (.inr (.inr (.inr (.inl hq)))))
  obtain ⟨f4, b4, e4⟩ := view_hash g4
  have g5 := hf 5 _ rfl
  change DataW.trod enc Try.prog w 0 _ true k 4 ((cs.drop 36).take (Try.prog.cellsOf 4)) = some y5 at g5
  rw [show Try.prog.cellsOf 4 = 1 by kernel_rfl] at g5
  have w5 : ∀ q ∈ y5.1.weights Try.prog 4, q ≤ reachBytes := fun q hq => hx q (by
    rw [show x.1 = DataW.agg [y0.1, y1.1, y2.1, y3.1, y4.1, y5.1] from congrArg Prod.fst hxy]
    simp only [DataW.weights, Try.underlying34, DataW.weightsEach, List.map, List.mem_append]
    exact .inr (.inr (.inr (.inr (.inr (.inl hq))))))
  obtain ⟨f5, e5, _⟩ := DataW.trod_bool Try.underlying4 g5
  have b5 : True := trivial
  refine ⟨f0, f1, f2, f3, f4, f5, ?_, b0, b1, b2, b3, b4, b5⟩
  refine (show cs = cs.drop 0 from rfl).trans ?_
  rw [cut_at cs 0 1 1 rfl, e0]
  refine congrArg (fun z : List Value => ([iv f0] : List Value) ++ z) ?_
  rw [cut_at cs 1 1 2 rfl, e1]
  refine congrArg (fun z : List Value => ([iv f1] : List Value) ++ z) ?_
  rw [cut_at cs 2 1 3 rfl, e2]
  refine congrArg (fun z : List Value => ([.string f2] : List Value) ++ z) ?_
  rw [cut_at cs 3 1 4 rfl, e3]
  refine congrArg (fun z : List Value => ([.string f3] : List Value) ++ z) ?_
  rw [cut_at cs 4 32 36 rfl, e4]
  refine congrArg (fun z : List Value => (U f4 : List Value) ++ z) ?_
  rw [cut_last cs 36 1 hcl', e5]
/-- a proposal that came in -/
def PpAt (w : World) (p : Pp) (yes no : List BA) : Prop := p.patch.length = 32 ∧ Txt w p.y yes ∧ Txt w p.n no ∧ p.author.size ≤ 140737488355328
theorem view_pp {fuel : Nat} {xs : Array Value} {x : DataW H × List MemPlace} (h : DataW.trod enc Try.prog w 0 (fun _ => true) true fuel 43 (Value.agg xs).cells.toList = some x) (hs : xs.size = Try.prog.cellsOf 43) (hw : ∀ n ∈ x.1.weights Try.prog 43, n ≤ reachBytes) :
    ∃ p : Pp, xs = p.cells.toArray ∧ ∃ yes no, PpAt w p yes no := by
  obtain ⟨f0, f1, f2, f3, f4, f5, l5, f6, l6, f7, e, b0, b1, b2, b3, b4, b5, b6, _⟩ := cells_pp h hw
  refine ⟨⟨f0, f1, f2, f3, f4, f5, f6, f7⟩, ?_, l5, l6, b3, b5, b6, b1⟩
  have e' : xs.toList = Pp.cells ⟨f0, f1, f2, f3, f4, f5, f6, f7⟩ := by simpa [Value.cells, Pp.cells] using e
  rw [← e']
theorem view_po {fuel : Nat} {xs : Array Value} {x : DataW H × List MemPlace} (h : DataW.trod enc Try.prog w 0 (fun _ => true) true fuel 52 (Value.agg xs).cells.toList = some x) (hs : xs.size = Try.prog.cellsOf 52) (hw : ∀ n ∈ x.1.weights Try.prog 52, n ≤ reachBytes) :
    ∃ q : Po, xs = q.cells.toArray ∧ True := by
  obtain ⟨f0, f1, e, b0, b1⟩ := cells_po h hw
  refine ⟨⟨f0, f1⟩, ?_, trivial⟩
  have e' : xs.toList = Po.cells ⟨f0, f1⟩ := by simpa [Value.cells, Po.cells] using e
  rw [← e']
/-- a call, told -/
structure ActV where
  kind : Int
  id : Int
  user : BA
  text : BA
  patch : Hs
  yes : Bool
def ActV.cells (x : ActV) : List Value := iv x.kind :: iv x.id :: .string x.user :: .string x.text :: (U x.patch ++ [.bool x.yes])
def ActV.ok (x : ActV) : Prop := (-9223372036854775808 ≤ x.kind ∧ x.kind ≤ 9223372036854775807) ∧ (-9223372036854775808 ≤ x.id ∧ x.id ≤ 9223372036854775807) ∧ x.user.size ≤ 140737488355328 ∧ x.text.size ≤ 140737488355328 ∧ x.patch.length = 32
instance : Inhabited ActV := ⟨⟨0, 0, ⟨#[]⟩, ⟨#[]⟩, [], false⟩⟩
theorem view_act {fuel : Nat} {xs : Array Value} {x : DataW H × List MemPlace} (h : DataW.trod enc Try.prog w 0 (fun _ => true) true fuel 34 (Value.agg xs).cells.toList = some x) (hs : xs.size = Try.prog.cellsOf 34) (hw : ∀ n ∈ x.1.weights Try.prog 34, n ≤ reachBytes) :
    ∃ q : ActV, xs = q.cells.toArray ∧ q.ok := by
  obtain ⟨f0, f1, f2, f3, f4, f5, e, b0, b1, b2, b3, b4, _⟩ := cells_act h hw
  refine ⟨⟨f0, f1, f2, f3, f4, f5⟩, ?_, b0, b1, b2, b3, b4⟩
  have e' : xs.toList = ActV.cells ⟨f0, f1, f2, f3, f4, f5⟩ := by simpa [Value.cells, ActV.cells] using e
  rw [← e']
/-- a list of calls that came in -/
def ArgA (w : World) (a : Option Addr) (len cap : Nat) (l : List ActV) : Prop :=
  l.length = len ∧ len ≤ 140737488355328 ∧ (∀ x ∈ l, x.ok) ∧ (0 < len → ∃ b off, a = some ⟨b, off, none⟩ ∧ b < w.heap.size ∧ ∀ i x, l[i]? = some x → w.rangeAt b (off + i * 37) x.cells)
theorem view_acts {fuel : Nat} {a : Option Addr} {len cap : Nat} {x : DataW H × List MemPlace} (h : DataW.trod enc Try.prog w 0 (fun _ => true) true fuel 22 (Value.slice a len cap).cells.toList = some x) (hx : ∀ n ∈ x.1.weights Try.prog 22, n ≤ reachBytes) :
    ∃ l, ArgA w a len cap l := by
  rcases open_slice Try.underlying22 h with ⟨hcs, _⟩ | ⟨ad, l, c, m, n, D, Pl, hcs, _, hl, hm, hmm, hd, hr⟩
  · simp [Value.cells] at hcs
    obtain ⟨rfl, rfl, rfl⟩ := hcs
    exact ⟨[], rfl, by omega, by simp, fun h => absurd h (by omega)⟩
  · simp [Value.cells] at hcs
    obtain ⟨rfl, rfl, rfl⟩ := hcs
    have hw : (len + (m - len)) * 88 ∈ x.1.weights Try.prog 22 := by
      rw [hd]
      simp only [DataW.weights, Try.underlying22]
      rw [show Try.prog.bytesOf 34 = 88 by kernel_rfl]
      simp
    have hsz := hx _ hw
    simp only [reachBytes] at hsz
    simp at hmm
    have ce : Try.prog.cellsOf 34 = 37 := by kernel_rfl
    rw [ce] at hr
    have hsp : 0 < len → ad.spot = none := fun hp => by
      obtain ⟨cs, h1, _⟩ := hr 0 (by omega)
      obtain ⟨_, hlen, hcell⟩ := World.cells?_some h1
      have h0 := hcell 0 (by omega)
      rw [List.getElem?_eq_getElem (by omega)] at h0
      have := World.cell?_spot h0
      simpa [Addr.add] using this
    have each : ∀ i, i < len → ∃ x : ActV, x.ok ∧ ∃ b off, ad = ⟨b, off, none⟩ ∧ b < w.heap.size ∧ w.rangeAt b (off + i * 37) x.cells := by
      intro i hi
      obtain ⟨cs, h1, h2⟩ := hr i (by omega)
      obtain ⟨_, hlen, hcell⟩ := World.cells?_some h1
      have hmem : ∀ q ∈ (D i, Pl i).1.weights Try.prog 34, q ≤ reachBytes := fun q hq => by
        refine hx q ?_
        rw [hd]
        simp only [DataW.weights, Try.underlying22]
        exact List.mem_cons.2 (.inr (List.mem_append.2 (.inl (mem_weightsAll hq (List.mem_map.2 ⟨i, List.mem_range.2 hi, rfl⟩)))))
      obtain ⟨f0, f1, f2, f3, f4, f5, e, b0, b1, b2, b3, b4, _⟩ := cells_act (x := (D i, Pl i)) h2 hmem
      have e' : cs = ActV.cells ⟨f0, f1, f2, f3, f4, f5⟩ := by simpa [ActV.cells] using e
      subst e'
      obtain ⟨b, off, spot⟩ := ad
      have hs := hsp (by omega)
      simp only at hs
      subst hs
      have hc0 := hcell 0 (by omega)
      rw [Addr.add_lit, Addr.add_lit] at hc0
      refine ⟨⟨f0, f1, f2, f3, f4, f5⟩, ⟨b0, b1, b2, b3, b4⟩, b, off, rfl, ?_, ?_⟩
      · have := World.block_lt_of_cell? w _ hc0
        simpa using this
      · intro j v hj
        have hj5 := (List.getElem?_eq_some_iff.1 hj).1
        have := hcell j (by omega)
        rw [Addr.add_lit, Addr.add_lit] at this
        rw [← hj]
        exact this
    refine ⟨(List.range len).map fun i => if h : i < len then (each i h).choose else default, by simp, by omega, ?_, fun hp => ?_⟩
    · intro r hr
      obtain ⟨i, hi, rfl⟩ := List.mem_map.1 hr
      have hlt := List.mem_range.1 hi
      rw [dif_pos hlt]
      exact (each i hlt).choose_spec.1
    obtain ⟨_, _, b, off, e1, e2, _⟩ := each 0 hp
    refine ⟨b, off, by rw [e1], e2, fun i x hx => ?_⟩
    have hlt : i < len := by
      have := (List.getElem?_eq_some_iff.1 hx).1
      simpa using this
    have e : (each i hlt).choose = x := by simpa [List.getElem?_map, List.getElem?_range hlt, hlt] using hx
    obtain ⟨_, b', off', e3, _, e5⟩ := (each i hlt).choose_spec
    rw [e1] at e3
    cases e3
    rw [e] at e5
    exact e5
end
#print axioms view_pp
#print axioms view_acts
end Go.Proofs.Ytaecigpjcbjcbaa.Oct
