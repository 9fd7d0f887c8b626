/-
  Layer 11 (lines): rows of acts.
  Layer 11 (lines): acts among the arguments.
  Layer 11 (lines): maps.Clone as this program bears it: the body of which the library's contract was proved.
  Layer 11 (lines): a graph that no call made: the law.
-/
import Derived.Test.YtjcihaohpbmogaaQeAO
import Derived.Deep.Slices
import Derived.ProofKit
import Derived.SizedLaws
import Derived.ChangeSame
import Derived.OpenShut
import Derived.ShutString
import Derived.ChangeOld
import Derived.Test.YtjcihaohpbmogaaRows
import Derived.Shelf.SlMaps.Clone
/- Layer 11 (lines): rows of acts. -/
namespace Go.Proofs.Ytjcihaohpbmogaa.Oct
open Go.RowKit Go.ChangeShapes Go.WideShapes Go.ChangeAt Go.Deep
set_option maxRecDepth 100000
set_option linter.unusedSimpArgs false
set_option linter.unusedVariables false
set_option linter.unusedSectionVars false

/-- acts that can be read -/
def ActsR (w : World) (a : Option Addr) (n : Nat) (l : List AV) : Prop := l.length = n ∧ (∀ x ∈ l, AR w x) ∧ (0 < n → ∃ g off, a = some ⟨g, off, none⟩ ∧ g < w.heap.size ∧ ∀ i x, l[i]? = some x → w.rangeAt g (off + i * 101) x.cells)
theorem AR.below {w w' : World} {a : AV} (h : AR w a) (hb : Below w.heap.size w w') : AR w' a := ⟨h.1, h.2.1, h.2.2.1.below hb, h.2.2.2.1.below hb, h.2.2.2.2⟩
theorem ActsR.below {w w' : World} {a : Option Addr} {n : Nat} {l : List AV} (h : ActsR w a n l) (hb : Below w.heap.size w w') : ActsR w' a n l := by
  refine ⟨h.1, fun x hx => (h.2.1 x hx).below hb, fun hp => ?_⟩
  obtain ⟨g, off, e, h1, h2⟩ := h.2.2 hp
  exact ⟨g, off, e, Nat.lt_of_lt_of_le h1 hb.size, fun i x hx => rangeAt_same (h2 i x hx) (hb.block g h1)⟩
instance : Inhabited AV := ⟨⟨0, vTop, vTop, none, 0, 0, [], none, 0, 0, [], []⟩⟩
theorem AV.c0 (a : AV) : a.cells[0]? = some (iv a.k) := rfl
section
variable {H : Type} {enc : TypeId × Value → H} {w : World}
theorem view_acts {fuel : Nat} {cs : List Value} {x : DataW H × List MemPlace} (h : DataW.trod enc Try.prog w 0 (fun _ => true) true fuel 22 cs = some x) (hx : ∀ n ∈ x.1.weights Try.prog 22, n ≤ reachBytes) :
    ∃ a len cap l, cs = [.slice a len cap] ∧ ActsR w a len l ∧ len ≤ cap ∧ cap ≤ maxLen ∧ len ≤ 140737488355328 := by
  rcases open_slice Try.underlying22 h with ⟨hcs, _⟩ | ⟨ad, len, cap, m, n, D, Pl, hcs, _, hl, hm, hmm, hd, hr⟩
  · exact ⟨none, 0, 0, [], hcs, ⟨rfl, by simp, fun h => absurd h (by omega)⟩, Nat.le_refl _, by unfold maxLen; omega, by omega⟩
  · refine ⟨some ad, len, cap, ?_⟩
    simp at hmm
    have hw : (len + (m - len)) * Try.prog.bytesOf 38 ∈ x.1.weights Try.prog 22 := by
      rw [hd]
      simp only [DataW.weights, Try.underlying22]
      simp
    have hsz := hx _ hw
    have hby : 1 ≤ Try.prog.bytesOf 38 := of_decide_eq_true (by kernel_rfl)
    have hsz : len * 1 ≤ reachBytes := Nat.le_trans (Nat.mul_le_mul (by omega) hby) hsz
    simp only [reachBytes] at hsz
    have ce : Try.prog.cellsOf 38 = 101 := by kernel_rfl
    rw [ce] at hr
    have hsp : 0 < len → ad.spot = none := fun hp => by
      obtain ⟨cs, h1, _⟩ := hr 0 (by omega)
      obtain ⟨_, hlen, hcell⟩ := World.cells?_some h1
      have h0 := hcell 0 (by omega)
      rw [List.getElem?_eq_getElem (by omega)] at h0
      have := World.cell?_spot h0
      simpa [Addr.add] using this
    have each : ∀ i, i < len → ∃ x : AV, AR w x ∧ ∃ b off, ad = ⟨b, off, none⟩ ∧ b < w.heap.size ∧ w.rangeAt b (off + i * 101) x.cells := by
      intro i hi
      obtain ⟨cs, h1, h2⟩ := hr i (by omega)
      have hmem : ∀ q ∈ (D i, Pl i).1.weights Try.prog 38, q ≤ reachBytes := fun q hq => by
        refine hx q ?_
        rw [hd]
        simp only [DataW.weights, Try.underlying22]
        exact List.mem_cons.2 (.inr (List.mem_append.2 (.inl (mem_weightsAll hq (List.mem_map.2 ⟨i, List.mem_range.2 hi, rfl⟩)))))
      obtain ⟨o, rfl, ho⟩ := view_act (x := (D i, Pl i)) h2 hmem
      obtain ⟨b, off, spot⟩ := ad
      have hspot := hsp (by omega)
      simp only at hspot
      subst hspot
      rw [Addr.add_lit] at h1
      have hra := range_of_cells h1
      have e0 := hra 0 _ o.c0
      refine ⟨o, ho, b, off, rfl, ?_, hra⟩
      have := World.block_lt_of_cell? w _ e0
      simpa using this
    obtain ⟨G, hG⟩ := choose_lt (p := fun i (x : AV) => AR w x ∧ ∃ b off, ad = ⟨b, off, none⟩ ∧ b < w.heap.size ∧ w.rangeAt b (off + i * 101) x.cells) each
    refine ⟨(List.range len).map G, hcs, ⟨by simp, ?_, fun hp => ?_⟩, hl, hm, by omega⟩
    · intro t ht
      obtain ⟨i, hi, rfl⟩ := List.mem_map.1 ht
      exact (hG i (List.mem_range.1 hi)).1
    · obtain ⟨_, b, off, e1, e2, _⟩ := hG 0 hp
      refine ⟨b, off, by rw [e1], e2, fun i x hi => ?_⟩
      have hlt : i < len := by
        have := (List.getElem?_eq_some_iff.1 hi).1
        simpa using this
      have e : G i = x := by simpa [List.getElem?_map, List.getElem?_range hlt] using hi
      subst e
      obtain ⟨_, b', off', f1, _, f3⟩ := hG i hlt
      rw [e1] at f1
      cases f1
      exact f3
end
end Go.Proofs.Ytjcihaohpbmogaa.Oct

/- Layer 11 (lines): acts among the arguments. -/
namespace Go.Proofs.Ytjcihaohpbmogaa.Oct
open Go.RowKit Go.ChangeShapes Go.WideShapes Go.ChangeAt
set_option maxRecDepth 100000
set_option linter.unusedSimpArgs false
set_option linter.unusedVariables false
set_option linter.unusedSectionVars false

variable {H : Type} {enc : TypeId × Value → H} {w : World}
/-- a []Act among the arguments -/
def ArgA (w : World) (a : Option Addr) (len cap : Nat) (l : List AV) : Prop := ActsR w a len l ∧ len ≤ cap ∧ cap ≤ maxLen ∧ len ≤ 140737488355328
theorem view_argA {fuel : Nat} {a : Option Addr} {len cap : Nat} {x : DataW H × List MemPlace} (h : DataW.trod enc Try.prog w 0 (fun _ => true) true fuel 22 (Value.slice a len cap).cells.toList = some x) (hx : ∀ n ∈ x.1.weights Try.prog 22, n ≤ reachBytes) :
    ∃ l, ArgA w a len cap l := by
  obtain ⟨a', len', cap', l, e, h1, h2, h3, h4⟩ := view_acts h hx
  have e : [Value.slice a len cap] = [.slice a' len' cap'] := e
  injection e with e
  injection e with e1 e2 e3
  subst e1 e2 e3
  exact ⟨l, h1, h2, h3, h4⟩
end Go.Proofs.Ytjcihaohpbmogaa.Oct

/- Layer 11 (lines): maps.Clone as this program bears it: the body of which the library's contract was proved. -/
namespace Go.Proofs.Ytjcihaohpbmogaa.Oct
open Go.Shelf
def laysMC_ren : Go.Shelf.Ren := ⟨fun | 5 => 59 | 7 => 76 | n => n, fun | 23 => 84 | 25 => 32 | 3 => 90 | 4 => 4 | 20 => 20 | n => n, fun | n => n⟩
theorem laysMC : Go.Proofs.SlLaysW.n5 Try.prog laysMC_ren := {
  mixed := by kernel_rfl
  f5 := ⟨Try.f59.name, by decide, Try.func59.trans (congrArg some (by kernel_rfl))⟩
  f7 := Try.func76.trans (congrArg some (by kernel_rfl))
  t4 := Try.underlying4
  a4 := Try.isAgg4
  z4 := Try.sizeOf4
  v4 := Try.zeroValue4
  t20 := Try.underlying20
  a20 := Try.isAgg20
  z20 := Try.sizeOf20
  v20 := Try.zeroValue20
  t23 := Try.underlying84
  a23 := Try.isAgg84
  z23 := Try.sizeOf84
  v23 := Try.zeroValue84 }
end Go.Proofs.Ytjcihaohpbmogaa.Oct

/- Layer 11 (lines): a graph that no call made: the law. -/
namespace Go.Proofs.Ytjcihaohpbmogaa.Oct
open Go.RowKit
set_option maxRecDepth 100000
set_option linter.unusedSimpArgs false
set_option linter.unusedVariables false
set_option linter.unusedSectionVars false

theorem AV.len {a : AV} (hu : a.up.ok) (hd : a.dn.ok) (hy : a.by_.length = 32) : a.cells.length = 101 := by
  unfold AV.cells
  simp [Vx.len hu, Vx.len hd, U_length, hy]
theorem AV.one (a : AV) : ∀ v ∈ a.cells, v.oneCell' = true := by
  intro v hv
  unfold AV.cells at hv
  simp only [List.mem_append, List.mem_singleton] at hv
  rcases hv with rfl | h | h | rfl | rfl | h
  · rfl
  · exact Vx.one _ v h
  · exact Vx.one _ v h
  · rfl
  · rfl
  · exact U_one _ v h
theorem info38 {L : List Value} (h : L.length = 101) : (Try.prog.info? 38).map (·.size) = some L.length := by rw [h]; show _ = some 101; kernel_rfl
theorem AV.ranges {w : World} {d : Nat} {a : AV} (h : Blk w d 38 a.cells) (hu : a.up.ok) (hd : a.dn.ok) : w.cell? ⟨d, 0, none⟩ = some (iv a.k) ∧ w.rangeAt d 1 a.up.cells ∧ w.rangeAt d 34 a.dn.cells ∧ w.cell? ⟨d, 67, none⟩ = some (.slice a.ia a.inn a.ic) ∧ w.cell? ⟨d, 68, none⟩ = some (.slice a.ta a.tn a.tc) ∧ w.rangeAt d 69 (U a.by_) := by
  have h0 := h.range0
  unfold AV.cells at h0
  have h1 := rangeAt_right h0
  have h2 := rangeAt_right h1
  have h3 := rangeAt_right h2
  have h4 := rangeAt_right h3
  have h5 := rangeAt_right h4
  simp only [List.length_singleton, Vx.len hu, Vx.len hd] at h1 h2 h3 h4 h5
  refine ⟨?_, by simpa using rangeAt_left h1, by simpa using rangeAt_left h2, ?_, ?_, by simpa using h5⟩
  · have := rangeAt_left h0 0 _ rfl
    simpa using this
  · have := rangeAt_left h3 0 _ rfl
    simpa using this
  · have := rangeAt_left h4 0 _ rfl
    simpa using this
theorem wpList_boxW {ops : Array Oper} {rest : List Oper} {o : Oper} {a : Act} {w : World} {Q : Exit → Act → World → Prop} (hw : Region.wanted o (yielded ops a.tmps) = true) (t : TypeId) (x : Operand) (hop : o.op = Op.box t x) (u r : Value) (hx : a.eval x = u) (W' : World) (hr : (Instr.box t u).run Try.prog w = .ok r W')
    (hK : wpList Try.prog ops Q rest (a.put o.dst r) W') : wpList Try.prog ops Q (o :: rest) a w := by
  refine Go.BigFrame.wpList_want hw fun K' hK' => ?_
  unfold Oper.wp execOp
  simp only [hop, hx, hr, Sem.run_bind, Sem.run_pure, Result.andThen_ok]
  exact hK' _ _ hK
theorem built67 : Try.prog.built 67 [] = some #[.map none] := by kernel_rfl
theorem box67 (W : World) : (Instr.box 67 (.agg #[.map none])).run Try.prog W = .ok (.pointer (some ⟨W.heap.size, 0, none⟩)) (W.alloc (.cells [Value.map none].toArray 67)) := by kernel_rfl
theorem bs68 (p q : Option Addr) (W : World) : (Instr.buildSlice 68 2 #[(0, .pointer p), (1, .pointer q)]).run Try.prog W = .ok (.slice (some ⟨W.heap.size, 0, none⟩) 2 2) (W.alloc (.cells [Value.pointer p, .pointer q].toArray 25)) := by kernel_rfl
/-- along the way -/
def NP (w0 V : World) (d : Nat) (a : AV) (g : Value) : Prop := Below w0.heap.size w0 V ∧ Blk V d 38 a.cells ∧ Un V g ∧ VsR V a.ia a.inn a.ids
theorem NP.step {w0 V V' : World} {d : Nat} {a : AV} {g : Value} (h : NP w0 V d a g) (hb : Below V.heap.size V V') : NP w0 V' d a g := ⟨below_tr h.1 hb, h.2.1.below hb h.2.1.lt, h.2.2.1.below hb, h.2.2.2.below hb⟩
set_option maxHeartbeats 8000000 in
theorem nobody_law (w : World) (a : AV) (ha : AR w a) : Calls Try.prog 8 #[.agg a.cells.toArray] w fun e w' => e = .returned (.bool true) ∧ Below w.heap.size w w' := by
  have HA : Hid (Vk a.up ∧ Vk a.dn ∧ a.by_.length = 32 ∧ a.inn ≤ 140737488355328) := ⟨ha.1, ha.2.1, ha.2.2.2.2.1, ha.2.2.2.2.2.2.2.1⟩
  have HVS : Hid (VsR w a.ia a.inn a.ids) := ha.2.2.1
  have hlen := AV.len ha.1.1 ha.2.1.1 ha.2.2.2.2.1
  obtain ⟨CU, hCU⟩ : ∃ C, a.up.cells = C := ⟨_, rfl⟩
  obtain ⟨CD, hCD⟩ : ∃ C, a.dn.cells = C := ⟨_, rfl⟩
  obtain ⟨CY, hCY⟩ : ∃ C, U a.by_ = C := ⟨_, rfl⟩
  have HI : Hid ((Try.prog.info? 34).map (·.size) = some CU.length ∧ (Try.prog.info? 34).map (·.size) = some CD.length ∧ (Try.prog.info? 32).map (·.size) = some CY.length) := ⟨by rw [← hCU]; exact info34 ha.1.1, by rw [← hCD]; exact info34 ha.2.1.1, by rw [← hCY]; exact info32 _ ha.2.2.2.2.1⟩
  have HCU : Hid (a.up.cells = CU) := hCU
  have HCD : Hid (a.dn.cells = CD) := hCD
  have HCY : Hid (U a.by_ = CY) := hCY
  have h1 := AV.one a
  have h2 := Try.underlying38
  have h3 := info38 hlen
  obtain ⟨CT, hCT⟩ : ∃ C, vTop.cells = C := ⟨_, rfl⟩
  obtain ⟨CB, hCB⟩ : ∃ C, vBot.cells = C := ⟨_, rfl⟩
  have hb1 := built34
  have hb2 := built34b
  rw [hCT] at hb1
  rw [hCB] at hb2
  have HCT : Hid (vTop.cells = CT) := hCT
  have HCB : Hid (vBot.cells = CB) := hCB
  have hbx : (Instr.box 38 (.agg a.cells.toArray)).run Try.prog w = .ok (.pointer (some ⟨w.heap.size, 0, none⟩)) (w.alloc (.cells a.cells.toArray 38)) := by
    obtain ⟨i0, hi0, hs0⟩ := Option.map_eq_some_iff.1 h3
    exact run_box 38 (.agg a.cells.toArray) i0 hi0 (by rw [hs0]; simp [Value.cells]) w
  have hk1 : Blk (w.alloc (.cells a.cells.toArray 38)) w.heap.size 38 a.cells := by simpa using Blk.new w a.cells.toArray 38
  have HK1 := hid_of hk1
  clear ha hCU hCD hCY hCT hCB hk1
  obtain ⟨C, hC⟩ : ∃ C, a.cells = C := ⟨_, rfl⟩
  have HC : Hid (a.cells = C) := hC
  rw [hC] at h1 h3 hlen hbx HK1
  rw [hC]
  clear hC
  go_enter Try.func8, Try.ntmps8
  go_wp2_with (first
    | (with_reducible change wpList _ _ _ ({ dst := some 1, op := _, type := _, pos := _, after := _, guard := _ } :: _) _ _
       refine wpList_boxW (by rfl) 38 (.tmp 0) rfl (.agg C.toArray) (.pointer (some ⟨w.heap.size, 0, none⟩)) rfl (w.alloc (.cells C.toArray 38)) hbx ?_)
    | (with_reducible change wpList _ _ _ ({ dst := some 5, op := _, type := _, pos := _, after := _, guard := _ } :: _) _ _
       refine Hid.out ?_)
    | fail)
  show wpList _ _ _ _ _ _
  obtain ⟨d1, hd1⟩ : ∃ d, w.heap.size = d := ⟨_, rfl⟩
  obtain ⟨W1, hW1⟩ : ∃ W, w.alloc (.cells C.toArray 38) = W := ⟨_, rfl⟩
  have S1 : Hid (Below w.heap.size w W1 ∧ Blk W1 d1 38 a.cells) := ⟨by rw [← hW1]; exact below_al _ _, by rw [HC.out, ← hW1, ← hd1]; exact HK1.out⟩
  rw [hW1, hd1]
  clear hW1 hd1 hbx h1 h3 hlen HK1
  obtain ⟨b2, hb2e⟩ : ∃ b, W1.heap.size = b := ⟨_, rfl⟩
  obtain ⟨W2, hW2⟩ : ∃ W, W1.alloc (.cells [Value.map none].toArray 67) = W := ⟨_, rfl⟩
  have hx67 := box67 W1
  rw [hW2, hb2e] at hx67
  have S2 : Hid (Below w.heap.size w W2 ∧ Blk W2 d1 38 a.cells ∧ Blk W2 b2 67 [.map none]) := by
    have hb : Below W1.heap.size W1 W2 := by rw [← hW2]; exact below_al _ _
    exact ⟨below_tr S1.out.1 hb, S1.out.2.below hb S1.out.2.lt, by rw [← hW2, ← hb2e]; exact Blk.new W1 _ _⟩
  clear hW2 hb2e S1
  obtain ⟨gr, hgr⟩ : ∃ b, W2.heap.size = b := ⟨_, rfl⟩
  obtain ⟨W3, hW3⟩ : ∃ W, W2.alloc (.cells [Value.pointer none, .pointer (some ⟨b2, 0, none⟩)].toArray 25) = W := ⟨_, rfl⟩
  have hx68 := bs68 none (some ⟨b2, 0, none⟩) W2
  rw [hW3, hgr] at hx68
  have S3 : Hid (Below w.heap.size w W3 ∧ Blk W3 d1 38 a.cells ∧ Blk W3 b2 67 [.map none] ∧ Blk W3 gr 25 [.pointer none, .pointer (some ⟨b2, 0, none⟩)]) := by
    have hb : Below W2.heap.size W2 W3 := by rw [← hW3]; exact below_al _ _
    exact ⟨below_tr S2.out.1 hb, S2.out.2.1.below hb S2.out.2.1.lt, S2.out.2.2.below hb S2.out.2.2.lt, by rw [← hW3, ← hgr]; exact Blk.new W2 _ _⟩
  clear hW3 hgr S2
  go_wp2_with (first
    | (with_reducible change wpList _ _ _ ({ dst := some 5, op := _, type := _, pos := _, after := _, guard := _ } :: _) _ _
       refine wpList_built rfl 67 _ rfl #[.map none] (by rw [← built67]; first | (simp; done) | (simp; rfl)) ?_)
    | (with_reducible change wpList _ _ _ ({ dst := some 6, op := _, type := _, pos := _, after := _, guard := _ } :: _) _ _
       refine wpList_boxW (by rfl) 67 (.tmp 5) rfl (.agg #[.map none]) (.pointer (some ⟨b2, 0, none⟩)) rfl W2 hx67 ?_)
    | (with_reducible change wpList _ _ _ ({ dst := some 7, op := _, type := _, pos := _, after := _, guard := _ } :: _) _ _
       refine wpList_bsW (by rfl) 68 2 _ rfl #[(0, .pointer none), (1, .pointer (some ⟨b2, 0, none⟩))] (by simp only [List.map_toArray, List.map_cons, List.map_nil]; rfl) (.slice (some ⟨gr, 0, none⟩) 2 2) W3 hx68 ?_)
    | fail)
  clear hx67 hx68
  go_loopw [9] (fun u wr => ∃ i : Nat, u = iv (i : Int) ∧ Hid (i ≤ 2 ∧ Below W3.heap.size W3 wr)) (fun u _ => 2 - (intOf u).toNat)
  case atStart => exact ⟨0, rfl, by omega, Below.refl _ _⟩
  case round =>
    obtain ⟨X, hX⟩ : ∃ X, X = wr := ⟨_, rfl⟩
    subst hX
    obtain ⟨i, rfl, HR⟩ := hrel
    by_cases hi : i < 2
    · have q1 : (i : Int) < 2 := by omega
      have HJ : Hid (i < 2) := hi
      obtain ⟨g, hg, hun⟩ : ∃ g, [Value.pointer none, .pointer (some ⟨b2, 0, none⟩)][i]? = some g ∧ Un W3 g := by
        rcases (show i = 0 ∨ i = 1 by omega) with rfl | rfl
        · exact ⟨_, rfl, .inl rfl⟩
        · exact ⟨_, rfl, .inr ⟨b2, rfl, S3.out.2.2.1⟩⟩
      have cg : X.cell? ⟨gr, i, none⟩ = some g := (S3.out.2.2.2.below HR.out.2 S3.out.2.2.2.lt).cell hg
      have N0 : Hid (NP w X d1 a g) := ⟨below_tr S3.out.1 HR.out.2, S3.out.2.1.below HR.out.2 S3.out.2.1.lt, hun.below HR.out.2, HVS.out.below (below_tr S3.out.1 HR.out.2)⟩
      have HX0 : Hid (Below W3.heap.size W3 X) := HR.out.2
      clear hg hun hi HR
      have R0 := hid_of (AV.ranges N0.out.2.1 HA.out.1.1 HA.out.2.1.1)
      rw [HCU.out, HCD.out, HCY.out] at R0
      have c67 : X.cell? ⟨d1, 67, none⟩ = some (.slice a.ia a.inn a.ic) := R0.out.2.2.2.1
      have c68 : X.cell? ⟨d1, 68, none⟩ = some (.slice a.ta a.tn a.tc) := R0.out.2.2.2.2.1
      go_wp2_with (first
        | (with_reducible change wpList _ _ _ ({ dst := some 15, op := _, type := _, pos := _, after := _, guard := _ } :: _) _ _
           refine wpList_load_want rfl 34 (.tmp 14) rfl d1 1 rfl CU _ R0.out.2.1 Try.underlying34 rfl HI.out.1 ?_)
        | (with_reducible change wpList _ _ _ ({ dst := some 17, op := _, type := _, pos := _, after := _, guard := _ } :: _) _ _
           refine wpList_load_want rfl 34 (.tmp 16) rfl d1 34 rfl CD _ R0.out.2.2.1 Try.underlying34 rfl HI.out.2.1 ?_)
        | fail)
      clear cg
      refine (add_un N0.out.2.2.1 a.up a.dn HA.out.1 HA.out.2.1 a.ia a.inn a.ic a.ids N0.out.2.2.2 HA.out.2.2.2 _ CU CD HCU.out HCD.out).mono ?_
      rintro e V1 ⟨rfl, hb⟩
      have B1 : Hid (Below W3.heap.size W3 V1) := HX0.out.trans (hb.mono HX0.out.size)
      have N1 : Hid (NP w V1 d1 a g) := N0.out.step hb
      clear hb c67 c68 R0
      have R1 := hid_of (AV.ranges N1.out.2.1 HA.out.1.1 HA.out.2.1.1)
      rw [HCU.out, HCD.out, HCY.out] at R1
      have c67 : V1.cell? ⟨d1, 67, none⟩ = some (.slice a.ia a.inn a.ic) := R1.out.2.2.2.1
      have c68 : V1.cell? ⟨d1, 68, none⟩ = some (.slice a.ta a.tn a.tc) := R1.out.2.2.2.2.1
      go_wp2_with (first
        | fail)
      refine (drop_un N1.out.2.2.1 a.ia a.inn a.ic a.ids N1.out.2.2.2 HA.out.2.2.2).mono ?_
      rintro e V2 ⟨rfl, hb⟩
      have B2 : Hid (Below W3.heap.size W3 V2) := B1.out.trans (hb.mono B1.out.size)
      have N2 : Hid (NP w V2 d1 a g) := N1.out.step hb
      clear hb c67 c68 R1
      have R2 := hid_of (AV.ranges N2.out.2.1 HA.out.1.1 HA.out.2.1.1)
      rw [HCU.out, HCD.out, HCY.out] at R2
      have c67 : V2.cell? ⟨d1, 67, none⟩ = some (.slice a.ia a.inn a.ic) := R2.out.2.2.2.1
      have c68 : V2.cell? ⟨d1, 68, none⟩ = some (.slice a.ta a.tn a.tc) := R2.out.2.2.2.2.1
      go_wp2_with (first
        | (with_reducible change wpList _ _ _ ({ dst := some 34, op := _, type := _, pos := _, after := _, guard := _ } :: _) _ _
           refine wpList_load_want rfl 34 (.tmp 33) rfl d1 1 rfl CU _ R2.out.2.1 Try.underlying34 rfl HI.out.1 ?_)
        | (with_reducible change wpList _ _ _ ({ dst := some 36, op := _, type := _, pos := _, after := _, guard := _ } :: _) _ _
           refine wpList_load_want rfl 32 (.tmp 35) rfl d1 69 rfl CY _ R2.out.2.2.2.2.2 Try.underlying32 rfl HI.out.2.2 ?_)
        | fail)
      refine (kill_un N2.out.2.2.1 a.up HA.out.1 a.by_ HA.out.2.2.1 CU HCU.out CY HCY.out).mono ?_
      rintro e V3 ⟨rfl, hb⟩
      have B3 : Hid (Below W3.heap.size W3 V3) := B2.out.trans (hb.mono B2.out.size)
      have N3 : Hid (NP w V3 d1 a g) := N2.out.step hb
      clear hb c67 c68 R2
      have R3 := hid_of (AV.ranges N3.out.2.1 HA.out.1.1 HA.out.2.1.1)
      rw [HCU.out, HCD.out, HCY.out] at R3
      have c67 : V3.cell? ⟨d1, 67, none⟩ = some (.slice a.ia a.inn a.ic) := R3.out.2.2.2.1
      have c68 : V3.cell? ⟨d1, 68, none⟩ = some (.slice a.ta a.tn a.tc) := R3.out.2.2.2.2.1
      go_wp2_with (first
        | (with_reducible change wpList _ _ _ ({ dst := some 43, op := _, type := _, pos := _, after := _, guard := _ } :: _) _ _
           refine wpList_load_want rfl 34 (.tmp 42) rfl d1 1 rfl CU _ R3.out.2.1 Try.underlying34 rfl HI.out.1 ?_)
        | (with_reducible change wpList _ _ _ ({ dst := some 45, op := _, type := _, pos := _, after := _, guard := _ } :: _) _ _
           refine wpList_load_want rfl 32 (.tmp 44) rfl d1 69 rfl CY _ R3.out.2.2.2.2.2 Try.underlying32 rfl HI.out.2.2 ?_)
        | fail)
      refine (unkill_un N3.out.2.2.1 a.up HA.out.1 a.by_ HA.out.2.2.1 CU HCU.out CY HCY.out).mono ?_
      rintro e V4 ⟨rfl, hb⟩
      have B4 : Hid (Below W3.heap.size W3 V4) := B3.out.trans (hb.mono B3.out.size)
      have N4 : Hid (NP w V4 d1 a g) := N3.out.step hb
      clear hb c67 c68 R3
      have R4 := hid_of (AV.ranges N4.out.2.1 HA.out.1.1 HA.out.2.1.1)
      rw [HCU.out, HCD.out, HCY.out] at R4
      have c67 : V4.cell? ⟨d1, 67, none⟩ = some (.slice a.ia a.inn a.ic) := R4.out.2.2.2.1
      have c68 : V4.cell? ⟨d1, 68, none⟩ = some (.slice a.ta a.tn a.tc) := R4.out.2.2.2.2.1
      go_wp2_with (first
        | (with_reducible change wpList _ _ _ ({ dst := some 51, op := _, type := _, pos := _, after := _, guard := _ } :: _) _ _
           refine wpList_load_want rfl 34 (.tmp 50) rfl d1 1 rfl CU _ R4.out.2.1 Try.underlying34 rfl HI.out.1 ?_)
        | fail)
      refine (has_un N4.out.2.2.1 a.up HA.out.1 CU HCU.out).mono ?_
      rintro e V5 ⟨rfl, hb⟩
      have B5 : Hid (Below W3.heap.size W3 V5) := B4.out.trans (hb.mono B4.out.size)
      have N5 : Hid (NP w V5 d1 a g) := N4.out.step hb
      clear hb c67 c68 R4
      have R5 := hid_of (AV.ranges N5.out.2.1 HA.out.1.1 HA.out.2.1.1)
      rw [HCU.out, HCD.out, HCY.out] at R5
      have c67 : V5.cell? ⟨d1, 67, none⟩ = some (.slice a.ia a.inn a.ic) := R5.out.2.2.2.1
      have c68 : V5.cell? ⟨d1, 68, none⟩ = some (.slice a.ta a.tn a.tc) := R5.out.2.2.2.2.1
      go_wp2_with (first
        | (with_reducible change wpList _ _ _ ({ dst := some 55, op := _, type := _, pos := _, after := _, guard := _ } :: _) _ _
           refine wpList_built_want (by rfl) 34 _ rfl CT.toArray (by rw [← hb1]; first | (simp; done) | (simp; rfl)) ?_)
        | (with_reducible change wpList _ _ _ ({ dst := some 56, op := _, type := _, pos := _, after := _, guard := _ } :: _) _ _
           refine wpList_built_want (by rfl) 34 _ rfl CB.toArray (by rw [← hb2]; first | (simp; done) | (simp; rfl)) ?_)
        | fail)
      refine (ahead_un N5.out.2.2.1 vTop vBot vTop_k vBot_k CT CB HCT.out HCB.out).mono ?_
      rintro e V6 ⟨rfl, hb⟩
      have B6 : Hid (Below W3.heap.size W3 V6) := B5.out.trans (hb.mono B5.out.size)
      have N6 : Hid (NP w V6 d1 a g) := N5.out.step hb
      clear hb c67 c68 R5
      go_wp2_with fail
      refine (len_un N6.out.2.2.1).mono ?_
      rintro e Vx_ ⟨rfl, rfl⟩
      go_wp2_with fail
      refine (shown_un N6.out.2.2.1).mono ?_
      rintro e Vx_ ⟨rfl, rfl⟩
      go_wp2_with fail
      refine (text_un N6.out.2.2.1).mono ?_
      rintro e Vx_ ⟨rfl, rfl⟩
      go_wp2_with fail
      refine (conflicts_un N6.out.2.2.1).mono ?_
      rintro e Vx_ ⟨rfl, rfl⟩
      go_wp2_with fail
      refine (clone_un N6.out.2.2.1).mono ?_
      rintro e Vx_ ⟨rfl, rfl⟩
      go_wp2
      refine ⟨⟨i + 1, by simp, HJ.out, B6.out⟩, ?_⟩
      have := HJ.out; simp [intOf]; omega
    · have q1 : ¬ (i : Int) < 2 := by omega
      have HE : Hid (Below w.heap.size w X) := below_tr S3.out.1 HR.out.2
      clear HR hi
      go_wp2_with fail
      refine (lives_is X).mono ?_
      rintro e V ⟨rfl, hb⟩
      have HE2 : Hid (Below w.heap.size w V) := below_tr HE.out hb
      clear hb
      go_wp2
      go_ret
      exact ⟨rfl, HE2.out⟩
end Go.Proofs.Ytjcihaohpbmogaa.Oct
