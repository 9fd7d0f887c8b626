/-
  Layer 21 (queue): calls among the laws' arguments; few.
-/
import Derived.Test.YtipipckbcelphaaWVac
namespace Go.Proofs.Ytipipckbcelphaa.Oct
open Go.RowKit Go.ChangeShapes Go.WideShapes Go.ChangeAt Go.Deep
set_option linter.unusedSimpArgs false
set_option linter.unusedVariables false

/-- calls that came in -/
def ArgA (w : World) (a : Option Addr) (len : Nat) (cap : Nat) (l : List Av) : Prop :=
  l.length = len ∧ len ≤ 2932031007403 ∧ (∀ x ∈ l, x.ok w) ∧ (0 < len → ∃ b off, a = some ⟨b, off, none⟩ ∧ b < w.heap.size ∧ ∀ i x, l[i]? = some x → w.rangeAt b (off + i * 4) x.cells)
instance : Inhabited Av := ⟨⟨0, 0, 0, none, 0, 0, []⟩⟩
section
variable {H : Type} {enc : TypeId × Value → H} {w : World}
theorem view_acts {fuel : Nat} {a : Option Addr} {len cap : Nat} {x : DataW H × List MemPlace} (h : DataW.trod enc Try.prog w 0 (fun _ => true) true fuel 22 (Value.slice a len cap).cells.toList = some x) (hx : ∀ n ∈ x.1.weights Try.prog 22, n ≤ reachBytes) :
    ∃ l, ArgA w a len cap l := by
  rcases open_slice Try.underlying22 h with ⟨hcs, _⟩ | ⟨ad, l, c, m, n, D, Pl, hcs, _, hl, hm, hmm, hd, hr⟩
  · simp [Value.cells] at hcs
    obtain ⟨rfl, rfl, rfl⟩ := hcs
    exact ⟨[], rfl, by omega, by simp, fun h => absurd h (by omega)⟩
  · simp [Value.cells] at hcs
    obtain ⟨rfl, rfl, rfl⟩ := hcs
    have hw : (len + (m - len)) * 48 ∈ x.1.weights Try.prog 22 := by
      rw [hd]
      simp only [DataW.weights, Try.underlying22]
      rw [show Try.prog.bytesOf 32 = 48 by kernel_rfl]
      simp
    have hsz := hx _ hw
    simp only [reachBytes] at hsz
    simp at hmm
    have ce : Try.prog.cellsOf 32 = 4 := by kernel_rfl
    rw [ce] at hr
    have hsp : 0 < len → ad.spot = none := fun hp => by
      obtain ⟨cs, h1, _⟩ := hr 0 (by omega)
      obtain ⟨_, hlen, hcell⟩ := World.cells?_some h1
      have h0 := hcell 0 (by omega)
      rw [List.getElem?_eq_getElem (by omega)] at h0
      have := World.cell?_spot h0
      simpa [Addr.add] using this
    have each : ∀ i, i < len → ∃ x : Av, x.ok w ∧ ∃ b off, ad = ⟨b, off, none⟩ ∧ b < w.heap.size ∧ w.rangeAt b (off + i * 4) x.cells := by
      intro i hi
      obtain ⟨cs, h1, h2⟩ := hr i (by omega)
      obtain ⟨_, hlen, hcell⟩ := World.cells?_some h1
      obtain ⟨v0, v1, v2, v3, rfl⟩ := len4 hlen
      have hmem : ∀ q ∈ (D i, Pl i).1.weights Try.prog 32, q ≤ reachBytes := fun q hq => by
        refine hx q ?_
        rw [hd]
        simp only [DataW.weights, Try.underlying22]
        exact List.mem_cons.2 (.inr (List.mem_append.2 (.inl (mem_weightsAll hq (List.mem_map.2 ⟨i, List.mem_range.2 hi, rfl⟩)))))
      obtain ⟨ys1, k1, hk1, hxy1, _, hxl1, hf1⟩ := DataW.trod_struct Try.underlying32 h2
      have hxl1' : ys1.length = 4 := hxl1
      obtain ⟨y1_0, y1_1, y1_2, y1_3, rfl⟩ := len4 hxl1'
      have g1_0 := hf1 0 _ rfl
      change DataW.trod enc Try.prog w 0 _ true k1 3 (([v0, v1, v2, v3].drop 0).take (Try.prog.cellsOf 3)) = some y1_0 at g1_0
      rw [show Try.prog.cellsOf 3 = 1 by kernel_rfl] at g1_0
      simp only [List.drop, List.take] at g1_0
      have w1_0 : ∀ q ∈ y1_0.1.weights Try.prog 3, q ≤ reachBytes := fun q hq => hmem q (by
        rw [show (D i, Pl i).1 = DataW.agg [y1_0.1, y1_1.1, y1_2.1, y1_3.1] from congrArg Prod.fst hxy1]
        simp only [DataW.weights, Try.underlying32, DataW.weightsEach, List.map, List.mem_append]
        exact .inl hq)
      have g1_1 := hf1 1 _ rfl
      change DataW.trod enc Try.prog w 0 _ true k1 3 (([v0, v1, v2, v3].drop 1).take (Try.prog.cellsOf 3)) = some y1_1 at g1_1
      rw [show Try.prog.cellsOf 3 = 1 by kernel_rfl] at g1_1
      simp only [List.drop, List.take] at g1_1
      have w1_1 : ∀ q ∈ y1_1.1.weights Try.prog 3, q ≤ reachBytes := fun q hq => hmem q (by
        rw [show (D i, Pl i).1 = DataW.agg [y1_0.1, y1_1.1, y1_2.1, y1_3.1] from congrArg Prod.fst hxy1]
        simp only [DataW.weights, Try.underlying32, DataW.weightsEach, List.map, List.mem_append]
        exact .inr (.inl hq))
      have g1_2 := hf1 2 _ rfl
      change DataW.trod enc Try.prog w 0 _ true k1 3 (([v0, v1, v2, v3].drop 2).take (Try.prog.cellsOf 3)) = some y1_2 at g1_2
      rw [show Try.prog.cellsOf 3 = 1 by kernel_rfl] at g1_2
      simp only [List.drop, List.take] at g1_2
      have w1_2 : ∀ q ∈ y1_2.1.weights Try.prog 3, q ≤ reachBytes := fun q hq => hmem q (by
        rw [show (D i, Pl i).1 = DataW.agg [y1_0.1, y1_1.1, y1_2.1, y1_3.1] from congrArg Prod.fst hxy1]
        simp only [DataW.weights, Try.underlying32, DataW.weightsEach, List.map, List.mem_append]
        exact .inr (.inr (.inl hq)))
      have g1_3 := hf1 3 _ rfl
      change DataW.trod enc Try.prog w 0 _ true k1 27 (([v0, v1, v2, v3].drop 3).take (Try.prog.cellsOf 27)) = some y1_3 at g1_3
      rw [show Try.prog.cellsOf 27 = 1 by kernel_rfl] at g1_3
      simp only [List.drop, List.take] at g1_3
      have w1_3 : ∀ q ∈ y1_3.1.weights Try.prog 27, q ≤ reachBytes := fun q hq => hmem q (by
        rw [show (D i, Pl i).1 = DataW.agg [y1_0.1, y1_1.1, y1_2.1, y1_3.1] from congrArg Prod.fst hxy1]
        simp only [DataW.weights, Try.underlying32, DataW.weightsEach, List.map, List.mem_append]
        exact .inr (.inr (.inr (.inl hq))))
      obtain ⟨c1_0, ec1_0, _, fc1_0⟩ := DataW.trod_int Try.underlying3 g1_0
      simp at ec1_0
      subst ec1_0
      have bc1_0 := bounds_i64 fc1_0
      obtain ⟨c1_1, ec1_1, _, fc1_1⟩ := DataW.trod_int Try.underlying3 g1_1
      simp at ec1_1
      subst ec1_1
      have bc1_1 := bounds_i64 fc1_1
      obtain ⟨c1_2, ec1_2, _, fc1_2⟩ := DataW.trod_int Try.underlying3 g1_2
      simp at ec1_2
      subst ec1_2
      have bc1_2 := bounds_i64 fc1_2
      obtain ⟨c1_3a, c1_3n, c1_3c, c1_3l, ec1_3, bc1_3⟩ := field_strs g1_3 w1_3
      subst ec1_3
      obtain ⟨b, off, spot⟩ := ad
      have hs := hsp (by omega)
      simp only at hs
      subst hs
      have hc0 := hcell 0 (by omega)
      rw [Addr.add_lit, Addr.add_lit] at hc0
      refine ⟨⟨c1_0, c1_1, c1_2, c1_3a, c1_3n, c1_3c, c1_3l⟩, ⟨bc1_0, bc1_1, bc1_2, bc1_3⟩, b, off, rfl, ?_, ?_⟩
      · have := World.block_lt_of_cell? w _ hc0
        simpa using this
      · intro j v hj
        have hj5 : j < 4 := (List.getElem?_eq_some_iff.1 hj).1
        have := hcell j (by omega)
        rw [Addr.add_lit, Addr.add_lit] at this
        rw [← hj]
        exact this
    refine ⟨(List.range len).map fun i => if h : i < len then (each i h).choose else default, by simp, by omega, ?_, fun hp => ?_⟩
    · intro r hr
      obtain ⟨i, hi, rfl⟩ := List.mem_map.1 hr
      have hlt := List.mem_range.1 hi
      rw [dif_pos hlt]
      exact (each i hlt).choose_spec.1
    obtain ⟨_, _, b, off, e1, e2, _⟩ := each 0 hp
    refine ⟨b, off, by rw [e1], e2, fun i x hx => ?_⟩
    have hlt : i < len := by
      have := (List.getElem?_eq_some_iff.1 hx).1
      simpa using this
    have e : (each i hlt).choose = x := by simpa [List.getElem?_map, List.getElem?_range hlt, hlt] using hx
    obtain ⟨_, b', off', e3, _, e5⟩ := (each i hlt).choose_spec
    rw [e1] at e3
    cases e3
    rw [e] at e5
    exact e5
end
#print axioms view_acts
theorem zero32 (W : World) : (zeroValue 32).run Try.prog W = .ok (.agg #[iv 0, iv 0, iv 0, .slice none 0 0]) W := by kernel_rfl
theorem size32 : (Try.prog.info? 32).map (·.size) = some 4 := by kernel_rfl
theorem Av.one (x : Av) : ∀ u ∈ x.cells, u.oneCell' = true := by
  intro u hu
  simp only [Av.cells, List.mem_cons, List.not_mem_nil, or_false] at hu
  rcases hu with rfl | rfl | rfl | rfl <;> rfl
set_option maxRecDepth 100000 in
set_option maxHeartbeats 2000000 in
theorem few_is (l : List Av) (a : Option Addr) (n cp : Nat) (w : World) (hl : ArgA w a n cp l) : Calls Try.prog 8 #[.slice a n cp] w fun e w' => ∃ r, e = .returned (.bool r) ∧ Below w.heap.size w w' := by
  have hz32 := zero32
  have HL : Hid (ArgA w a n cp l) := hl
  have qn : (n : Int) ≤ 2932031007403 := by have := hl.2.1; omega
  clear hl
  go_enter Try.func8, Try.ntmps8
  go_wp2
  go_loopw [8, 3] (fun u v W => ∃ (i : Nat) (z : Int), u = iv i ∧ v = iv z ∧ Hid (i ≤ n ∧ Below w.heap.size w W)) (fun u _ _ => n - (intOf u).toNat)
  case atStart => exact ⟨0, 0, rfl, rfl, Nat.zero_le _, Below.refl _ _⟩
  case round =>
    obtain ⟨i, z, rfl, rfl, HI⟩ := hrel
    by_cases hi : i = n
    · have q1 : (n : Int) ≤ (i : Int) := by omega
      have HB : Hid (Below w.heap.size w wr) := HI.out.2
      clear hi HI
      go_wp2
      go_ret
      exact ⟨_, rfl, HB.out⟩
    · have HQ : Hid (i < n) := by have := HI.out.1; show _ < _; omega
      have q1 : (i : Int) < (n : Int) := by have := HQ.out; omega
      have q2 : i < n := HQ.out
      obtain ⟨ab, off, ha, hbl, hc⟩ := HL.out.2.2.2 (by omega)
      subst ha
      obtain ⟨x, hx⟩ : ∃ x, l[i]? = some x := ⟨_, List.getElem?_eq_getElem (by rw [HL.out.1]; exact q2)⟩
      have hr : wr.rangeAt ab (off + i * 4) x.cells := rangeAt_same (hc i x hx) (HI.out.2.block ab hbl)
      have HR : Hid (wr.rangeAt ab (off + i * 4) x.cells) := hr
      clear hi hc hx hbl hr
      go_wp2_with (with_reducible change wpList _ _ _ ({ dst := some 11, op := _, type := _, pos := _, after := _, guard := _ } :: _) _ _; refine Hid.out ?_)
      show wpList _ _ _ _ _ _
      refine wpList_load_want rfl 32 (.tmp 10) rfl ab (off + i * 4) rfl x.cells _ HR.out Try.underlying32 rfl size32 ?_
      simp only [Act.put, List.setIfInBounds_toArray, List.set_cons_zero, List.set_cons_succ]
      obtain ⟨g5, hg5⟩ : ∃ g, wr.heap.size = g := ⟨_, rfl⟩
      go_wp2_with (with_reducible change wpList _ _ _ ({ dst := none, op := Op.store 32 _ _, type := _, pos := _, after := _, guard := _ } :: _) _ _; refine Hid.out ?_)
      show wpList _ _ _ _ _ _
      refine wpList_store_blk rfl 32 (.tmp 5) (.tmp 11) rfl g5 0 32 [iv 0, iv 0, iv 0, .slice none 0 0] x.cells rfl rfl (by rw [← hg5]; exact Blk.new wr _ _) (by simp [Av.cells]) size32 (Av.one x) ?_
      intro V hb5 hg6
      have hV : Below wr.heap.size wr V := (below_al wr _).grown hg6.out (below_al wr _).size (fun j hj => by cases hj; omega)
      have c3 : V.cell? ⟨g5, 3, none⟩ = some (.slice x.sa x.sn x.sc) := hb5.out.cell rfl
      have HV : Hid (Below w.heap.size w V) := below_tr HI.out.2 hV
      clear hb5 hg6 hV hg5 HR
      go_wp2
      go_roundw
      case rel => exact ⟨i + 1, _, by simp, rfl, HQ.out, HV.out⟩
      case measure =>
        have := HQ.out
        simp only [intOf]
        omega
#print axioms few_is
end Go.Proofs.Ytipipckbcelphaa.Oct
