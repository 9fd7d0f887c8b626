/-
  Layer 10 (patch): the laws' arguments.
-/
import Derived.Test.YtgdecjacbkicmaaDoorQkB
import Derived.Deep.Slices
import Derived.ProofKit
import Derived.SizedLaws
import Derived.ChangeSame
import Derived.OpenShut
import Derived.ShutString
import Derived.ChangeOld
import Derived.WideKeyArr2
/- Layer 10 (patch): the laws' arguments. -/
namespace Go.Proofs.YtgdecjacbkicmaaDoor.Oct
open Go.RowKit Go.ChangeShapes Go.WideShapes Go.ChangeAt Go.Deep
set_option maxRecDepth 100000
set_option linter.unusedSimpArgs false
set_option linter.unusedVariables false

instance : Inhabited OpV := ⟨o00⟩
theorem cut_at (cs : List Value) (a n b : Nat) (h : a + n = b) : cs.drop a = (cs.drop a).take n ++ cs.drop b := by
  subst h
  rw [← List.drop_drop, List.take_append_drop]
theorem cut_last (cs : List Value) (a n : Nat) (h : cs.length = a + n) : cs.drop a = (cs.drop a).take n := by
  rw [List.take_of_length_le (by rw [List.length_drop]; omega)]
section
variable {H : Type} {enc : TypeId × Value → H} {w : World}

theorem mem_weightsAll {P : Program} {e : TypeId} {d : DataW H} {n : Nat} (hn : n ∈ d.weights P e) : ∀ {ds : List (DataW H)}, d ∈ ds → n ∈ DataW.weightsAll P e ds
  | [], h => by cases h
  | d0 :: r, h => by
    simp only [DataW.weightsAll, List.mem_append]
    rcases List.mem_cons.1 h with rfl | h
    · exact .inl hn
    · exact .inr (mem_weightsAll hn h)
/-- a hash that was read -/
theorem view_hash {n : Nat} {cs : List Value} {x : DataW H × List MemPlace} (h : DataW.trod enc Tryd.prog w 0 (fun _ => true) true n 36 cs = some x) : ∃ hh : Hs, hh.length = 32 ∧ cs = U hh := by
  obtain ⟨xs, m, _, _, hl, hxl, hf⟩ := DataW.trod_array Tryd.underlying36 h
  have hl' : cs.length = 32 := by rw [hl]; kernel_rfl
  have c5 : Tryd.prog.cellsOf 5 = 1 := by kernel_rfl
  rw [c5] at hf
  have each : ∀ i, i < 32 → ∃ c : UInt8, cs[i]? = some (.int .u8 (c.toNat : Int)) := by
    intro i hi
    have h1 := hf i hi
    rw [List.getElem?_eq_getElem (by omega)] at h1
    obtain ⟨k, hk, _, hw⟩ := DataW.trod_int Tryd.underlying5 h1
    have hb := bounds_u8 hw
    refine ⟨UInt8.ofNat k.toNat, ?_⟩
    have : cs[i]? = some (.int .u8 k) := by
      rw [Nat.mul_one] at hk
      have := congrArg (·[0]?) hk
      simpa [List.getElem?_take, List.getElem?_drop] using this
    rw [this, UInt8.toNat_ofNat']
    congr 2
    omega
  obtain ⟨G, hG⟩ := choose_lt each
  refine ⟨(List.range 32).map G, by simp, ?_⟩
  apply List.ext_getElem?
  intro i
  by_cases hi : i < 32
  · rw [hG i hi]; simp [U, hi]
  · rw [List.getElem?_eq_none (by omega), List.getElem?_eq_none (by simp [U]; omega)]
/-- cells that were read are a range -/
theorem range_of_cells {b off n : Nat} {cs : List Value} (h : w.cells? 0 ⟨b, off, none⟩ n = some cs) : w.rangeAt b off cs := by
  obtain ⟨_, hlen, hcell⟩ := World.cells?_some h
  intro j v hj
  have hlt := (List.getElem?_eq_some_iff.1 hj).1
  have := hcell j (by omega)
  rw [Addr.add_lit] at this
  rw [← hj]
  exact this
/-- hashes that were read -/
theorem view_hashes {fuel : Nat} {cs : List Value} {x : DataW H × List MemPlace} (h : DataW.trod enc Tryd.prog w 0 (fun _ => true) true fuel 22 cs = some x) (hx : ∀ n ∈ x.1.weights Tryd.prog 22, n ≤ reachBytes) :
    ∃ a len cap hs, cs = [.slice a len cap] ∧ HsR w a len hs ∧ len ≤ cap ∧ cap ≤ maxLen ∧ len ≤ 140737488355328 := by
  rcases open_slice Tryd.underlying22 h with ⟨hcs, _⟩ | ⟨ad, len, cap, m, n, D, Pl, hcs, _, hl, hm, hmm, hd, hr⟩
  · exact ⟨none, 0, 0, [], hcs, ⟨rfl, by simp, fun h => absurd h (by omega)⟩, Nat.le_refl _, by unfold maxLen; omega, by omega⟩
  · refine ⟨some ad, len, cap, ?_⟩
    simp at hmm
    have ce : Tryd.prog.cellsOf 36 = 32 := by kernel_rfl
    rw [ce] at hr
    have hsp : 0 < len → ad.spot = none := fun hp => by
      obtain ⟨cs, h1, _⟩ := hr 0 (by omega)
      obtain ⟨_, hlen, hcell⟩ := World.cells?_some h1
      have h0 := hcell 0 (by omega)
      rw [List.getElem?_eq_getElem (by omega)] at h0
      have := World.cell?_spot h0
      simpa [Addr.add] using this
    have each : ∀ i, i < len → ∃ x : Hs, x.length = 32 ∧ ∃ b off, ad = ⟨b, off, none⟩ ∧ b < w.heap.size ∧ w.rangeAt b (off + i * 32) (U x) := by
      intro i hi
      obtain ⟨cs, h1, h2⟩ := hr i (by omega)
      obtain ⟨hh, hhl, rfl⟩ := view_hash h2
      obtain ⟨b, off, spot⟩ := ad
      have hspot : spot = none := hsp (by omega)
      subst hspot
      rw [Addr.add_lit] at h1
      have hra := range_of_cells h1
      refine ⟨hh, hhl, b, off, rfl, ?_, hra⟩
      have e0 := hra 0 _ (U_get hh 0 (by omega))
      have := World.block_lt_of_cell? w _ e0
      simpa using this
    obtain ⟨G, hG⟩ := choose_lt each
    refine ⟨(List.range len).map G, hcs, ⟨by simp, ?_, fun hp => ?_⟩, hl, hm, ?_⟩
    · intro h hh
      obtain ⟨i, hi, rfl⟩ := List.mem_map.1 hh
      exact (hG i (List.mem_range.1 hi)).1
    · obtain ⟨_, b, off, e1, e2, _⟩ := hG 0 hp
      refine ⟨b, off, by rw [e1], e2, fun i x hi => ?_⟩
      have hlt : i < len := by
        have := (List.getElem?_eq_some_iff.1 hi).1
        simpa using this
      have e : G i = x := by simpa [List.getElem?_map, List.getElem?_range hlt] using hi
      subst e
      obtain ⟨_, b', off', f1, _, f3⟩ := hG i hlt
      rw [e1] at f1
      cases f1
      exact f3
    · have hmem : (len + (m - len)) * Tryd.prog.bytesOf 36 ∈ x.1.weights Tryd.prog 22 := by
        rw [hd]
        simp [DataW.weights, Tryd.underlying22]
      have := hx _ hmem
      rw [show Tryd.prog.bytesOf 36 = 32 by kernel_rfl] at this
      simp only [reachBytes] at this
      omega
theorem fld_str {n : Nat} {cs : List Value} {x : DataW H × List MemPlace} (h : DataW.trod enc Tryd.prog w 0 (fun _ => true) true n 9 cs = some x) (hx : ∀ k ∈ x.1.weights Tryd.prog 9, k ≤ reachBytes) :
    ∃ s : ByteArray, cs = [.string s] ∧ s.size ≤ 140737488355328 := by
  obtain ⟨s, hs, hd, _⟩ := DataW.trod_string Tryd.underlying9 h
  refine ⟨s, by simpa using hs, ?_⟩
  have hmem : s.size ∈ x.1.weights Tryd.prog 9 := by
    rw [hd]
    simp [DataW.weights]
  have := hx _ hmem
  simp only [reachBytes] at this
  omega
theorem view_strs {fuel : Nat} {cs : List Value} {x : DataW H × List MemPlace} (h : DataW.trod enc Tryd.prog w 0 (fun _ => true) true fuel 43 cs = some x) (hx : ∀ n ∈ x.1.weights Tryd.prog 43, n ≤ reachBytes) :
    ∃ a len cap l, cs = [.slice a len cap] ∧ Strs w a len l ∧ (∀ t ∈ l, t.size ≤ 140737488355328) ∧ len ≤ cap ∧ cap ≤ maxLen ∧ len ≤ 140737488355328 := by
  rcases open_slice Tryd.underlying43 h with ⟨hcs, _⟩ | ⟨ad, len, cap, m, n, D, Pl, hcs, _, hl, hm, hmm, hd, hr⟩
  · exact ⟨none, 0, 0, [], hcs, ⟨rfl, fun h => absurd h (by omega)⟩, by simp, Nat.le_refl _, by unfold maxLen; omega, by omega⟩
  · refine ⟨some ad, len, cap, ?_⟩
    simp at hmm
    have hw : (len + (m - len)) * 16 ∈ x.1.weights Tryd.prog 43 := by
      rw [hd]
      simp only [DataW.weights, Tryd.underlying43]
      rw [show Tryd.prog.bytesOf 9 = 16 by kernel_rfl]
      simp
    have hsz := hx _ hw
    simp only [reachBytes] at hsz
    have ce : Tryd.prog.cellsOf 9 = 1 := by kernel_rfl
    rw [ce] at hr
    have hsp : 0 < len → ad.spot = none := fun hp => by
      obtain ⟨cs, h1, _⟩ := hr 0 (by omega)
      obtain ⟨_, hlen, hcell⟩ := World.cells?_some h1
      have h0 := hcell 0 (by omega)
      rw [List.getElem?_eq_getElem (by omega)] at h0
      have := World.cell?_spot h0
      simpa [Addr.add] using this
    have each : ∀ i, i < len → ∃ x : ByteArray, x.size ≤ 140737488355328 ∧ ∃ b off, ad = ⟨b, off, none⟩ ∧ b < w.heap.size ∧ w.cell? ⟨b, off + i, none⟩ = some (.string x) := by
      intro i hi
      obtain ⟨cs, h1, h2⟩ := hr i (by omega)
      obtain ⟨_, hlen, hcell⟩ := World.cells?_some h1
      have hmem : ∀ q ∈ (D i, Pl i).1.weights Tryd.prog 9, q ≤ reachBytes := fun q hq => by
        refine hx q ?_
        rw [hd]
        simp only [DataW.weights, Tryd.underlying43]
        exact List.mem_cons.2 (.inr (List.mem_append.2 (.inl (mem_weightsAll hq (List.mem_map.2 ⟨i, List.mem_range.2 hi, rfl⟩)))))
      obtain ⟨f0, e, b0⟩ := fld_str (x := (D i, Pl i)) h2 hmem
      subst e
      obtain ⟨b, off, spot⟩ := ad
      have hs := hsp (by omega)
      simp only at hs
      subst hs
      rw [Addr.add_lit] at h1
      have hra := range_of_cells h1
      have e0 := hra 0 _ rfl
      refine ⟨f0, b0, b, off, rfl, ?_, by simpa using e0⟩
      have := World.block_lt_of_cell? w _ e0
      simpa using this
    obtain ⟨G, hG⟩ := choose_lt (p := fun i (x : ByteArray) => x.size ≤ 140737488355328 ∧ ∃ b off, ad = ⟨b, off, none⟩ ∧ b < w.heap.size ∧ w.cell? ⟨b, off + i, none⟩ = some (.string x)) each
    refine ⟨(List.range len).map G, hcs, ⟨by simp, fun hp => ?_⟩, ?_, hl, hm, by omega⟩
    · obtain ⟨_, b, off, e1, e2, _⟩ := hG 0 hp
      refine ⟨b, off, by rw [e1], e2, fun i x hi => ?_⟩
      have hlt : i < len := by
        have := (List.getElem?_eq_some_iff.1 hi).1
        simpa using this
      have e : G i = x := by simpa [List.getElem?_map, List.getElem?_range hlt] using hi
      subst e
      obtain ⟨_, b', off', f1, _, f3⟩ := hG i hlt
      rw [e1] at f1
      cases f1
      exact f3
    · intro t ht
      obtain ⟨i, hi, rfl⟩ := List.mem_map.1 ht
      exact (hG i (List.mem_range.1 hi)).1
theorem view_vx {fuel : Nat} {cs : List Value} {x : DataW H × List MemPlace} (h : DataW.trod enc Tryd.prog w 0 (fun _ => true) true fuel 42 cs = some x) (hx : ∀ n ∈ x.1.weights Tryd.prog 42, n ≤ reachBytes) :
    ∃ v : Vx, v.ok ∧ cs = v.cells := by
  obtain ⟨ys, k, hk, hxy, hcl, hxl, hf⟩ := DataW.trod_struct Tryd.underlying42 h
  have hcl' : cs.length = 33 := by rw [hcl]; kernel_rfl
  have hxl' : ys.length = 2 := hxl
  obtain ⟨y0, y1, rfl⟩ : ∃ y0 y1, ys = [y0, y1] := by
    rcases ys with _ | ⟨y0, _ | ⟨y1, _ | ⟨z, l⟩⟩⟩ <;> simp at hxl'
    exact ⟨y0, y1, rfl⟩
  have g0 := hf 0 _ rfl
  change DataW.trod enc Tryd.prog w 0 _ true k 36 ((cs.drop 0).take (Tryd.prog.cellsOf 36)) = some y0 at g0
  rw [show Tryd.prog.cellsOf 36 = 32 by kernel_rfl] at g0
  have w0 : ∀ q ∈ y0.1.weights Tryd.prog 36, q ≤ reachBytes := fun q hq => hx q (by
    rw [show x.1 = DataW.agg [y0.1, y1.1] from congrArg Prod.fst hxy]
    simp only [DataW.weights, Tryd.underlying42, DataW.weightsEach, List.map, List.mem_append]
    exact .inl hq)
  obtain ⟨f0, b0, e0⟩ := view_hash g0
  have g1 := hf 1 _ rfl
  change DataW.trod enc Tryd.prog w 0 _ true k 3 ((cs.drop 32).take (Tryd.prog.cellsOf 3)) = some y1 at g1
  rw [show Tryd.prog.cellsOf 3 = 1 by kernel_rfl] at g1
  have w1 : ∀ q ∈ y1.1.weights Tryd.prog 3, q ≤ reachBytes := fun q hq => hx q (by
    rw [show x.1 = DataW.agg [y0.1, y1.1] from congrArg Prod.fst hxy]
    simp only [DataW.weights, Tryd.underlying42, DataW.weightsEach, List.map, List.mem_append]
    exact .inr (.inl hq))
  obtain ⟨f1, e1, _, b1⟩ := DataW.trod_int Tryd.underlying3 g1
  have b1 := bounds_i64 b1
  have hcs : cs = (cs.drop 0).take 32 ++ ((cs.drop 32).take 1) :=
    (List.drop_zero (l := cs)).symm.trans ((cut_at cs 0 32 32 rfl).trans (congrArg ((cs.drop 0).take 32 ++ ·) (cut_last cs 32 1 hcl')))
  rw [e0, e1] at hcs
  exact ⟨⟨f0, f1⟩, b0, hcs⟩
theorem view_op {fuel : Nat} {cs : List Value} {x : DataW H × List MemPlace} (h : DataW.trod enc Tryd.prog w 0 (fun _ => true) true fuel 45 cs = some x) (hx : ∀ n ∈ x.1.weights Tryd.prog 45, n ≤ reachBytes) :
    ∃ o : OpV, o.ok ∧ Strs w o.la o.ln o.ts ∧ cs = o.cells := by
  obtain ⟨ys, k, hk, hxy, hcl, hxl, hf⟩ := DataW.trod_struct Tryd.underlying45 h
  have hcl' : cs.length = 69 := by rw [hcl]; kernel_rfl
  have hxl' : ys.length = 5 := hxl
  obtain ⟨y0, y1, y2, y3, y4, rfl⟩ : ∃ y0 y1 y2 y3 y4, ys = [y0, y1, y2, y3, y4] := by
    rcases ys with _ | ⟨y0, _ | ⟨y1, _ | ⟨y2, _ | ⟨y3, _ | ⟨y4, _ | ⟨z, l⟩⟩⟩⟩⟩⟩ <;> simp at hxl'
    exact ⟨y0, y1, y2, y3, y4, rfl⟩
  have g0 := hf 0 _ rfl
  change DataW.trod enc Tryd.prog w 0 _ true k 3 ((cs.drop 0).take (Tryd.prog.cellsOf 3)) = some y0 at g0
  rw [show Tryd.prog.cellsOf 3 = 1 by kernel_rfl] at g0
  have w0 : ∀ q ∈ y0.1.weights Tryd.prog 3, q ≤ reachBytes := fun q hq => hx q (by
    rw [show x.1 = DataW.agg [y0.1, y1.1, y2.1, y3.1, y4.1] from congrArg Prod.fst hxy]
    simp only [DataW.weights, Tryd.underlying45, DataW.weightsEach, List.map, List.mem_append]
    exact .inl hq)
  obtain ⟨f0, e0, _, b0⟩ := DataW.trod_int Tryd.underlying3 g0
  have b0 := bounds_i64 b0
  have g1 := hf 1 _ rfl
  change DataW.trod enc Tryd.prog w 0 _ true k 9 ((cs.drop 1).take (Tryd.prog.cellsOf 9)) = some y1 at g1
  rw [show Tryd.prog.cellsOf 9 = 1 by kernel_rfl] at g1
  have w1 : ∀ q ∈ y1.1.weights Tryd.prog 9, q ≤ reachBytes := fun q hq => hx q (by
    rw [show x.1 = DataW.agg [y0.1, y1.1, y2.1, y3.1, y4.1] from congrArg Prod.fst hxy]
    simp only [DataW.weights, Tryd.underlying45, DataW.weightsEach, List.map, List.mem_append]
    exact .inr (.inl hq))
  obtain ⟨f1, e1, b1⟩ := fld_str g1 w1
  have g2 := hf 2 _ rfl
  change DataW.trod enc Tryd.prog w 0 _ true k 42 ((cs.drop 2).take (Tryd.prog.cellsOf 42)) = some y2 at g2
  rw [show Tryd.prog.cellsOf 42 = 33 by kernel_rfl] at g2
  have w2 : ∀ q ∈ y2.1.weights Tryd.prog 42, q ≤ reachBytes := fun q hq => hx q (by
    rw [show x.1 = DataW.agg [y0.1, y1.1, y2.1, y3.1, y4.1] from congrArg Prod.fst hxy]
    simp only [DataW.weights, Tryd.underlying45, DataW.weightsEach, List.map, List.mem_append]
    exact .inr (.inr (.inl hq)))
  obtain ⟨f2, b2, e2⟩ := view_vx g2 w2
  have g3 := hf 3 _ rfl
  change DataW.trod enc Tryd.prog w 0 _ true k 42 ((cs.drop 35).take (Tryd.prog.cellsOf 42)) = some y3 at g3
  rw [show Tryd.prog.cellsOf 42 = 33 by kernel_rfl] at g3
  have w3 : ∀ q ∈ y3.1.weights Tryd.prog 42, q ≤ reachBytes := fun q hq => hx q (by
    rw [show x.1 = DataW.agg [y0.1, y1.1, y2.1, y3.1, y4.1] from congrArg Prod.fst hxy]
    simp only [DataW.weights, Tryd.underlying45, DataW.weightsEach, List.map, List.mem_append]
    exact .inr (.inr (.inr (.inl hq))))
  obtain ⟨f3, b3, e3⟩ := view_vx g3 w3
  have g4 := hf 4 _ rfl
  change DataW.trod enc Tryd.prog w 0 _ true k 43 ((cs.drop 68).take (Tryd.prog.cellsOf 43)) = some y4 at g4
  rw [show Tryd.prog.cellsOf 43 = 1 by kernel_rfl] at g4
  have w4 : ∀ q ∈ y4.1.weights Tryd.prog 43, q ≤ reachBytes := fun q hq => hx q (by
    rw [show x.1 = DataW.agg [y0.1, y1.1, y2.1, y3.1, y4.1] from congrArg Prod.fst hxy]
    simp only [DataW.weights, Tryd.underlying45, DataW.weightsEach, List.map, List.mem_append]
    exact .inr (.inr (.inr (.inr (.inl hq)))))
  obtain ⟨a4, n4, c4, l4, e4, r4, t4, q4, m4, z4⟩ := view_strs g4 w4
  have hcs : cs = (cs.drop 0).take 1 ++ ((cs.drop 1).take 1 ++ ((cs.drop 2).take 33 ++ ((cs.drop 35).take 33 ++ ((cs.drop 68).take 1)))) :=
    (List.drop_zero (l := cs)).symm.trans ((cut_at cs 0 1 1 rfl).trans (congrArg ((cs.drop 0).take 1 ++ ·) ((cut_at cs 1 1 2 rfl).trans (congrArg ((cs.drop 1).take 1 ++ ·) ((cut_at cs 2 33 35 rfl).trans (congrArg ((cs.drop 2).take 33 ++ ·) ((cut_at cs 35 33 68 rfl).trans (congrArg ((cs.drop 35).take 33 ++ ·) (cut_last cs 68 1 hcl')))))))))
  rw [e0, e1, e2, e3, e4] at hcs
  refine ⟨⟨f0, f1, f2, f3, a4, n4, c4, l4⟩, ⟨b2, b3, r4.1, z4, b1, t4, q4, m4⟩, r4, ?_⟩
  rw [hcs]
  rfl
theorem view_ops {fuel : Nat} {cs : List Value} {x : DataW H × List MemPlace} (h : DataW.trod enc Tryd.prog w 0 (fun _ => true) true fuel 23 cs = some x) (hx : ∀ n ∈ x.1.weights Tryd.prog 23, n ≤ reachBytes) :
    ∃ a len cap l, cs = [.slice a len cap] ∧ OpsR w a len l ∧ len ≤ cap ∧ cap ≤ maxLen ∧ len ≤ 140737488355328 := by
  rcases open_slice Tryd.underlying23 h with ⟨hcs, _⟩ | ⟨ad, len, cap, m, n, D, Pl, hcs, _, hl, hm, hmm, hd, hr⟩
  · exact ⟨none, 0, 0, [], hcs, ⟨rfl, by simp, fun h => absurd h (by omega)⟩, Nat.le_refl _, by unfold maxLen; omega, by omega⟩
  · refine ⟨some ad, len, cap, ?_⟩
    simp at hmm
    have hw : (len + (m - len)) * Tryd.prog.bytesOf 45 ∈ x.1.weights Tryd.prog 23 := by
      rw [hd]
      simp only [DataW.weights, Tryd.underlying23]
      simp
    have hsz := hx _ hw
    have hby : 1 ≤ Tryd.prog.bytesOf 45 := of_decide_eq_true (by kernel_rfl)
    have hsz : len * 1 ≤ reachBytes := Nat.le_trans (Nat.mul_le_mul (by omega) hby) hsz
    simp only [reachBytes] at hsz
    have ce : Tryd.prog.cellsOf 45 = 69 := by kernel_rfl
    rw [ce] at hr
    have hsp : 0 < len → ad.spot = none := fun hp => by
      obtain ⟨cs, h1, _⟩ := hr 0 (by omega)
      obtain ⟨_, hlen, hcell⟩ := World.cells?_some h1
      have h0 := hcell 0 (by omega)
      rw [List.getElem?_eq_getElem (by omega)] at h0
      have := World.cell?_spot h0
      simpa [Addr.add] using this
    have each : ∀ i, i < len → ∃ x : OpV, (x.ok ∧ Strs w x.la x.ln x.ts) ∧ ∃ b off, ad = ⟨b, off, none⟩ ∧ b < w.heap.size ∧ w.rangeAt b (off + i * 69) x.cells := by
      intro i hi
      obtain ⟨cs, h1, h2⟩ := hr i (by omega)
      have hmem : ∀ q ∈ (D i, Pl i).1.weights Tryd.prog 45, q ≤ reachBytes := fun q hq => by
        refine hx q ?_
        rw [hd]
        simp only [DataW.weights, Tryd.underlying23]
        exact List.mem_cons.2 (.inr (List.mem_append.2 (.inl (mem_weightsAll hq (List.mem_map.2 ⟨i, List.mem_range.2 hi, rfl⟩)))))
      obtain ⟨o, ho, hs, rfl⟩ := view_op (x := (D i, Pl i)) h2 hmem
      obtain ⟨b, off, spot⟩ := ad
      have hspot := hsp (by omega)
      simp only at hspot
      subst hspot
      rw [Addr.add_lit] at h1
      have hra := range_of_cells h1
      have e0 := hra 0 _ o.c0
      refine ⟨o, ⟨ho, hs⟩, b, off, rfl, ?_, hra⟩
      have := World.block_lt_of_cell? w _ e0
      simpa using this
    obtain ⟨G, hG⟩ := choose_lt (p := fun i (x : OpV) => (x.ok ∧ Strs w x.la x.ln x.ts) ∧ ∃ b off, ad = ⟨b, off, none⟩ ∧ b < w.heap.size ∧ w.rangeAt b (off + i * 69) x.cells) each
    refine ⟨(List.range len).map G, hcs, ⟨by simp, ?_, fun hp => ?_⟩, hl, hm, by omega⟩
    · intro t ht
      obtain ⟨i, hi, rfl⟩ := List.mem_map.1 ht
      exact (hG i (List.mem_range.1 hi)).1
    · obtain ⟨_, b, off, e1, e2, _⟩ := hG 0 hp
      refine ⟨b, off, by rw [e1], e2, fun i x hi => ?_⟩
      have hlt : i < len := by
        have := (List.getElem?_eq_some_iff.1 hi).1
        simpa using this
      have e : G i = x := by simpa [List.getElem?_map, List.getElem?_range hlt] using hi
      subst e
      obtain ⟨_, b', off', f1, _, f3⟩ := hG i hlt
      rw [e1] at f1
      cases f1
      exact f3
theorem cells_patch {fuel : Nat} {cs : List Value} {x : DataW H × List MemPlace} (h : DataW.trod enc Tryd.prog w 0 (fun _ => true) true fuel 25 cs = some x) (hx : ∀ n ∈ x.1.weights Tryd.prog 25, n ≤ reachBytes) :
    ∃ p : PV, cs = p.cells ∧ PR w p ∧ (-9223372036854775808 ≤ p.tm ∧ p.tm ≤ 9223372036854775807) := by
  obtain ⟨ys, k, hk, hxy, hcl, hxl, hf⟩ := DataW.trod_struct Tryd.underlying25 h
  have hcl' : cs.length = 5 := by rw [hcl]; kernel_rfl
  have hxl' : ys.length = 5 := hxl
  obtain ⟨y0, y1, y2, y3, y4, rfl⟩ : ∃ y0 y1 y2 y3 y4, ys = [y0, y1, y2, y3, y4] := by
    rcases ys with _ | ⟨y0, _ | ⟨y1, _ | ⟨y2, _ | ⟨y3, _ | ⟨y4, _ | ⟨z, l⟩⟩⟩⟩⟩⟩ <;> simp at hxl'
    exact ⟨y0, y1, y2, y3, y4, rfl⟩
  have g0 := hf 0 _ rfl
  change DataW.trod enc Tryd.prog w 0 _ true k 9 ((cs.drop 0).take (Tryd.prog.cellsOf 9)) = some y0 at g0
  rw [show Tryd.prog.cellsOf 9 = 1 by kernel_rfl] at g0
  have w0 : ∀ q ∈ y0.1.weights Tryd.prog 9, q ≤ reachBytes := fun q hq => hx q (by
    rw [show x.1 = DataW.agg [y0.1, y1.1, y2.1, y3.1, y4.1] from congrArg Prod.fst hxy]
    simp only [DataW.weights, Tryd.underlying25, DataW.weightsEach, List.map, List.mem_append]
    exact .inl hq)
  obtain ⟨f0, e0, b0⟩ := fld_str g0 w0
  have g1 := hf 1 _ rfl
  change DataW.trod enc Tryd.prog w 0 _ true k 3 ((cs.drop 1).take (Tryd.prog.cellsOf 3)) = some y1 at g1
  rw [show Tryd.prog.cellsOf 3 = 1 by kernel_rfl] at g1
  have w1 : ∀ q ∈ y1.1.weights Tryd.prog 3, q ≤ reachBytes := fun q hq => hx q (by
    rw [show x.1 = DataW.agg [y0.1, y1.1, y2.1, y3.1, y4.1] from congrArg Prod.fst hxy]
    simp only [DataW.weights, Tryd.underlying25, DataW.weightsEach, List.map, List.mem_append]
    exact .inr (.inl hq))
  obtain ⟨f1, e1, _, b1⟩ := DataW.trod_int Tryd.underlying3 g1
  have b1 := bounds_i64 b1
  have g2 := hf 2 _ rfl
  change DataW.trod enc Tryd.prog w 0 _ true k 9 ((cs.drop 2).take (Tryd.prog.cellsOf 9)) = some y2 at g2
  rw [show Tryd.prog.cellsOf 9 = 1 by kernel_rfl] at g2
  have w2 : ∀ q ∈ y2.1.weights Tryd.prog 9, q ≤ reachBytes := fun q hq => hx q (by
    rw [show x.1 = DataW.agg [y0.1, y1.1, y2.1, y3.1, y4.1] from congrArg Prod.fst hxy]
    simp only [DataW.weights, Tryd.underlying25, DataW.weightsEach, List.map, List.mem_append]
    exact .inr (.inr (.inl hq)))
  obtain ⟨f2, e2, b2⟩ := fld_str g2 w2
  have g3 := hf 3 _ rfl
  change DataW.trod enc Tryd.prog w 0 _ true k 22 ((cs.drop 3).take (Tryd.prog.cellsOf 22)) = some y3 at g3
  rw [show Tryd.prog.cellsOf 22 = 1 by kernel_rfl] at g3
  have w3 : ∀ q ∈ y3.1.weights Tryd.prog 22, q ≤ reachBytes := fun q hq => hx q (by
    rw [show x.1 = DataW.agg [y0.1, y1.1, y2.1, y3.1, y4.1] from congrArg Prod.fst hxy]
    simp only [DataW.weights, Tryd.underlying25, DataW.weightsEach, List.map, List.mem_append]
    exact .inr (.inr (.inr (.inl hq))))
  obtain ⟨a3, n3, c3, l3, e3, r3, q3, m3, z3⟩ := view_hashes g3 w3
  have g4 := hf 4 _ rfl
  change DataW.trod enc Tryd.prog w 0 _ true k 23 ((cs.drop 4).take (Tryd.prog.cellsOf 23)) = some y4 at g4
  rw [show Tryd.prog.cellsOf 23 = 1 by kernel_rfl] at g4
  have w4 : ∀ q ∈ y4.1.weights Tryd.prog 23, q ≤ reachBytes := fun q hq => hx q (by
    rw [show x.1 = DataW.agg [y0.1, y1.1, y2.1, y3.1, y4.1] from congrArg Prod.fst hxy]
    simp only [DataW.weights, Tryd.underlying25, DataW.weightsEach, List.map, List.mem_append]
    exact .inr (.inr (.inr (.inr (.inl hq)))))
  obtain ⟨a4, n4, c4, l4, e4, r4, q4, m4, z4⟩ := view_ops g4 w4
  have hcs : cs = (cs.drop 0).take 1 ++ ((cs.drop 1).take 1 ++ ((cs.drop 2).take 1 ++ ((cs.drop 3).take 1 ++ ((cs.drop 4).take 1)))) :=
    (List.drop_zero (l := cs)).symm.trans ((cut_at cs 0 1 1 rfl).trans (congrArg ((cs.drop 0).take 1 ++ ·) ((cut_at cs 1 1 2 rfl).trans (congrArg ((cs.drop 1).take 1 ++ ·) ((cut_at cs 2 1 3 rfl).trans (congrArg ((cs.drop 2).take 1 ++ ·) ((cut_at cs 3 1 4 rfl).trans (congrArg ((cs.drop 3).take 1 ++ ·) (cut_last cs 4 1 hcl')))))))))
  rw [e0, e1, e2, e3, e4] at hcs
  exact ⟨⟨f0, f1, f2, a3, n3, c3, l3, a4, n4, c4, l4⟩, hcs, ⟨r3, r4, ⟨q3, m3⟩, ⟨q4, m4⟩, z3, z4, b0, b2⟩, b1⟩
theorem view_patch {fuel : Nat} {xs : Array Value} {x : DataW H × List MemPlace} (h : DataW.trod enc Tryd.prog w 0 (fun _ => true) true fuel 25 (Value.agg xs).cells.toList = some x) (hs : xs.size = Tryd.prog.cellsOf 25) (hw : ∀ n ∈ x.1.weights Tryd.prog 25, n ≤ reachBytes) :
    ∃ p : PV, xs = p.cells.toArray ∧ PR w p ∧ (-9223372036854775808 ≤ p.tm ∧ p.tm ≤ 9223372036854775807) := by
  obtain ⟨p, e, hp⟩ := cells_patch h hw
  refine ⟨p, ?_, hp⟩
  rw [← e]
  simp [Value.cells]
end
end Go.Proofs.YtgdecjacbkicmaaDoor.Oct
