/-
  Layer 22 (fields): the laws' arguments.
-/
import Derived.Test.YtlbcpbibcfolkaaDoorPrs
import Derived.Deep.Slices
import Derived.ProofKit
import Derived.SizedLaws
import Derived.ChangeSame
import Derived.OpenShut
import Derived.ShutString
import Derived.ChangeOld
import Derived.LaidHandle
namespace Go.Proofs.YtlbcpbibcfolkaaDoor.Oct
open Go.RowKit Go.ChangeShapes Go.WideShapes Go.ChangeAt Go.Deep
set_option maxRecDepth 100000
set_option linter.unusedSimpArgs false
set_option linter.unusedVariables false

theorem len2 {α : Type} {l : List α} (h : l.length = 2) : ∃ a0 a1, l = [a0, a1] := by
  rcases l with _ | ⟨a0, _ | ⟨a1, _ | ⟨z, l⟩⟩⟩ <;> simp at h
  exact ⟨a0, a1, rfl⟩
theorem cut_at (cs : List Value) (a n b : Nat) (h : a + n = b) : cs.drop a = (cs.drop a).take n ++ cs.drop b := by
  subst h
  rw [← List.drop_drop, List.take_append_drop]
theorem cut_last (cs : List Value) (a n : Nat) (h : cs.length = a + n) : cs.drop a = (cs.drop a).take n := by
  rw [List.take_of_length_le (by rw [List.length_drop]; omega)]
theorem mem_weightsAll {H : Type} {P : Program} {e : TypeId} {d : DataW H} {n : Nat} (hn : n ∈ d.weights P e) : ∀ {ds : List (DataW H)}, d ∈ ds → n ∈ DataW.weightsAll P e ds
  | [], h => by cases h
  | d0 :: r, h => by
    simp only [DataW.weightsAll, List.mem_append]
    rcases List.mem_cons.1 h with rfl | h
    · exact .inl hn
    · exact .inr (mem_weightsAll hn h)
section
variable {H : Type} {enc : TypeId × Value → H} {w : World}
theorem fld_str {n : Nat} {cs : List Value} {x : DataW H × List MemPlace} (h : DataW.trod enc Tryd.prog w 0 (fun _ => true) true n 9 cs = some x) (hx : ∀ k ∈ x.1.weights Tryd.prog 9, k ≤ reachBytes) :
    ∃ s : ByteArray, cs = [.string s] ∧ s.size ≤ 140737488355328 := by
  obtain ⟨s, hs, hd, _⟩ := DataW.trod_string Tryd.underlying9 h
  refine ⟨s, by simpa using hs, ?_⟩
  have hmem : s.size ∈ x.1.weights Tryd.prog 9 := by
    rw [hd]
    simp [DataW.weights]
  have := hx _ hmem
  simp only [reachBytes] at this
  omega
instance : Inhabited Pr := ⟨⟨e0, e0⟩⟩
theorem cells_pr {fuel : Nat} {cs : List Value} {x : DataW H × List MemPlace} (h : DataW.trod enc Tryd.prog w 0 (fun _ => true) true fuel 49 cs = some x) (hx : ∀ k ∈ x.1.weights Tryd.prog 49, k ≤ reachBytes) :
    ∃ (f0 : ByteArray) (f1 : ByteArray), cs = [.string f0] ++ ([.string f1]) ∧ f0.size ≤ 140737488355328 ∧ f1.size ≤ 140737488355328 := by
  obtain ⟨ys, k, hk, hxy, hcl, hxl, hf⟩ := DataW.trod_struct Tryd.underlying49 h
  have hcl' : cs.length = 2 := by rw [hcl]; kernel_rfl
  have hxl' : ys.length = 2 := hxl
  obtain ⟨y0, y1, rfl⟩ := len2 hxl'
  have g0 := hf 0 _ rfl
  change DataW.trod enc Tryd.prog w 0 _ true k 9 ((cs.drop 0).take (Tryd.prog.cellsOf 9)) = some y0 at g0
  rw [show Tryd.prog.cellsOf 9 = 1 by kernel_rfl] at g0
  have w0 : ∀ q ∈ y0.1.weights Tryd.prog 9, q ≤ reachBytes := fun q hq => hx q (by
    rw [show x.1 = DataW.agg [y0.1, y1.1] from congrArg Prod.fst hxy]
    simp only [DataW.weights, Tryd.underlying49, DataW.weightsEach, List.map, List.mem_append]
    exact .inl hq)
  obtain ⟨f0, e0, b0⟩ := fld_str g0 w0
  have g1 := hf 1 _ rfl
  change DataW.trod enc Tryd.prog w 0 _ true k 9 ((cs.drop 1).take (Tryd.prog.cellsOf 9)) = some y1 at g1
  rw [show Tryd.prog.cellsOf 9 = 1 by kernel_rfl] at g1
  have w1 : ∀ q ∈ y1.1.weights Tryd.prog 9, q ≤ reachBytes := fun q hq => hx q (by
    rw [show x.1 = DataW.agg [y0.1, y1.1] from congrArg Prod.fst hxy]
    simp only [DataW.weights, Tryd.underlying49, DataW.weightsEach, List.map, List.mem_append]
    exact .inr (.inl hq))
  obtain ⟨f1, e1, b1⟩ := fld_str g1 w1
  refine ⟨f0, f1, ?_, b0, b1⟩
  refine (show cs = cs.drop 0 from rfl).trans ?_
  rw [cut_at cs 0 1 1 rfl, e0]
  refine congrArg (fun z : List Value => ([.string f0] : List Value) ++ z) ?_
  rw [cut_last cs 1 1 hcl', e1]
theorem view_prs {fuel : Nat} {a : Option Addr} {len cap : Nat} {x : DataW H × List MemPlace} (h : DataW.trod enc Tryd.prog w 0 (fun _ => true) true fuel 32 (Value.slice a len cap).cells.toList = some x) (hx : ∀ n ∈ x.1.weights Tryd.prog 32, n ≤ reachBytes) :
    ∃ l, l.length = len ∧ PsR w (.slice a l.length cap) l := by
  rcases open_slice Tryd.underlying32 h with ⟨hcs, _⟩ | ⟨ad, l, c, m, n, D, Pl, hcs, _, hl, hm, hmm, hd, hr⟩
  · simp [Value.cells] at hcs
    obtain ⟨rfl, rfl, rfl⟩ := hcs
    exact ⟨[], rfl, by simp, none, 0, rfl, Nat.le_refl _, by unfold maxLen; omega, fun h => absurd h (by simp)⟩
  · simp [Value.cells] at hcs
    obtain ⟨rfl, rfl, rfl⟩ := hcs
    have hw : (len + (m - len)) * 32 ∈ x.1.weights Tryd.prog 32 := by
      rw [hd]
      simp only [DataW.weights, Tryd.underlying32]
      rw [show Tryd.prog.bytesOf 49 = 32 by kernel_rfl]
      simp
    have hsz := hx _ hw
    simp only [reachBytes] at hsz
    simp at hmm
    have ce : Tryd.prog.cellsOf 49 = 2 := by kernel_rfl
    rw [ce] at hr
    have hsp : 0 < len → ad.spot = none := fun hp => by
      obtain ⟨cs, h1, _⟩ := hr 0 (by omega)
      obtain ⟨_, hlen, hcell⟩ := World.cells?_some h1
      have h0 := hcell 0 (by omega)
      rw [List.getElem?_eq_getElem (by omega)] at h0
      have := World.cell?_spot h0
      simpa [Addr.add] using this
    have each : ∀ i, i < len → ∃ x : Pr, x.ok ∧ ∃ b off, ad = ⟨b, off, none⟩ ∧ b < w.heap.size ∧ w.rangeAt b (off + i * 2) x.cells := by
      intro i hi
      obtain ⟨cs, h1, h2⟩ := hr i (by omega)
      obtain ⟨_, hlen, hcell⟩ := World.cells?_some h1
      have hmem : ∀ q ∈ (D i, Pl i).1.weights Tryd.prog 49, q ≤ reachBytes := fun q hq => by
        refine hx q ?_
        rw [hd]
        simp only [DataW.weights, Tryd.underlying32]
        exact List.mem_cons.2 (.inr (List.mem_append.2 (.inl (mem_weightsAll hq (List.mem_map.2 ⟨i, List.mem_range.2 hi, rfl⟩)))))
      obtain ⟨f0, f1, e, b0, b1⟩ := cells_pr (x := (D i, Pl i)) h2 hmem
      have e' : cs = Pr.cells ⟨f0, f1⟩ := by simpa [Pr.cells] using e
      subst e'
      obtain ⟨b, off, spot⟩ := ad
      have hs := hsp (by omega)
      simp only at hs
      subst hs
      have hc0 := hcell 0 (by omega)
      rw [Addr.add_lit, Addr.add_lit] at hc0
      refine ⟨⟨f0, f1⟩, ⟨b0, b1⟩, b, off, rfl, ?_, ?_⟩
      · have := World.block_lt_of_cell? w _ hc0
        simpa using this
      · intro j v hj
        have hj5 := (List.getElem?_eq_some_iff.1 hj).1
        have := hcell j (by omega)
        rw [Addr.add_lit, Addr.add_lit] at this
        rw [← hj]
        exact this
    have hsame : ∀ r ∈ (List.range len).map fun i => if h : i < len then (each i h).choose else default, r.ok := by
      intro r hr
      obtain ⟨i, hi, rfl⟩ := List.mem_map.1 hr
      have hlt := List.mem_range.1 hi
      rw [dif_pos hlt]
      exact (each i hlt).choose_spec.1
    have hrow : 0 < len → ∃ b off, some ad = some ⟨b, off, none⟩ ∧ b < w.heap.size ∧ ∀ i x, ((List.range len).map fun i => if h : i < len then (each i h).choose else default)[i]? = some x → w.rangeAt b (off + i * 2) x.cells := fun hp => by
      obtain ⟨_, _, b, off, e1, e2, _⟩ := each 0 hp
      refine ⟨b, off, by rw [e1], e2, fun i x hx => ?_⟩
      have hlt : i < len := by
        have := (List.getElem?_eq_some_iff.1 hx).1
        simpa using this
      have e : (each i hlt).choose = x := by simpa [List.getElem?_map, List.getElem?_range hlt, hlt] using hx
      obtain ⟨_, b', off', e3, _, e5⟩ := (each i hlt).choose_spec
      rw [e1] at e3
      cases e3
      rw [e] at e5
      exact e5
    have hlen : ((List.range len).map fun i => if h : i < len then (each i h).choose else default).length = len := by simp
    refine ⟨_, hlen, hsame, some ad, cap, rfl, by rw [hlen]; omega, by first | exact hmm | exact hm | omega, fun hp => hrow (by rw [hlen] at hp; exact hp)⟩
end
#print axioms view_prs
theorem ET1 : Tryd.prog.globalNamed "errors.errorType" = some 0 := by kernel_rfl
theorem laidOut : laidOutB Tryd.prog = true := by kernel_rfl
theorem own : ownKnob Tryd.prog.godebug = none := by kernel_rfl
theorem rt78 : (Tryd.prog.cutTypes.find? (·.1 == "internal/reflectlite.rtype")).map (·.2) = some 78 := by kernel_rfl
theorem nT : Tryd.prog.types.size = 139 := by kernel_rfl
theorem oneRow : ((List.range 139).filter fun t => Tryd.prog.rowNamed t [101, 114, 114, 111, 114]) = [26] := by kernel_rfl
theorem et_of_laid {W : World} (h : laidMetH Tryd.prog [("errors.errorType", Rows.laid_errors_errorType)] W) : W.cell? ⟨0, 0, none⟩ = some (.iface 78 (.agg #[.pointer (some ⟨2, 26, none⟩)])) := by
  have h' : laidMet Tryd.prog [] W ∧ handlesMet Tryd.prog [("errors.errorType", Rows.laid_errors_errorType)] W := h
  obtain ⟨name, u, ty, e1, e2, e3, e4, e5⟩ := h'.2 _ (List.mem_singleton.2 rfl)
  have en : name = [101, 114, 114, 111, 114] := (Option.some.inj e1).symm
  subst en
  obtain rfl := Option.some.inj (rt78.symm.trans e2)
  have hm : ty ∈ (List.range 139).filter fun t => Tryd.prog.rowNamed t [101, 114, 114, 111, 114] := List.mem_filter.2 ⟨List.mem_range.2 (by rw [← nT]; exact e3), e4⟩
  rw [oneRow] at hm
  obtain rfl := List.mem_singleton.1 hm
  have hh : typeHandle Tryd.prog 26 = .pointer (some ⟨2, 26, none⟩) := by kernel_rfl
  rw [hh] at e5
  simpa using World.var?_cell ET1 e5 0
#print axioms et_of_laid
end Go.Proofs.YtlbcpbibcfolkaaDoor.Oct
