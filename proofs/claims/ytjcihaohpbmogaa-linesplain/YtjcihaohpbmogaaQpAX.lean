/-
  Layer 11 (lines): do.
  Layer 11 (lines): built.
  Layer 11 (lines): a line's copy.
-/
import Derived.Test.YtjcihaohpbmogaaQpBN
import Derived.Test.YtjcihaohpbmogaaQpAT
import Derived.Test.YtjcihaohpbmogaaQpAU
import Derived.Test.YtjcihaohpbmogaaQpAW
/- Layer 11 (lines): do. -/
namespace Go.Proofs.Ytjcihaohpbmogaa.Oct
open Go.RowKit
set_option maxRecDepth 100000
set_option linter.unusedSimpArgs false
set_option linter.unusedVariables false
set_option linter.unusedSectionVars false

theorem wpList_bz {ops : Array Oper} {rest : List Oper} {o : Oper} {a : Act} {w : World} {Q : Exit → Act → World → Prop} (hg : o.guard = none) (T : TypeId) (hop : o.op = .buildSlice T 0 #[]) (r : Value) (W' : World) (hr : (Instr.buildSlice T 0 #[]).run Try.prog w = .ok r W')
    (hK : wpList Try.prog ops Q rest (a.put o.dst r) W') : wpList Try.prog ops Q (o :: rest) a w := by
  refine wpList_plain hg fun K' hK' => ?_
  unfold Oper.wp execOp
  simp only [hop, List.map_toArray, List.map_nil, Sem.run_bind, Sem.run_pure, Result.andThen_ok, hr]
  exact hK' _ _ hK
def DoP (w : World) (p : Nat) (G : Gm) (a : AV) (e : Ending) (w' : World) : Prop := ∃ E G', e = .returned (iv E) ∧ GAfter w p G G' w' ∧ StepR G.ps a E G'.ps
theorem Iv.len {k : Nat} {G : Gm} (h : Iv k G.ps) (hk : k < 100000) : ∀ l ∈ G.ls, l.p.fr.length < 100000 := fun l hl => Nat.lt_of_le_of_lt (h.ln l.p (List.mem_map.2 ⟨l, hl, rfl⟩)) hk
theorem Iv.nef {k : Nat} {G : Gm} (h : Iv k G.ps) : ∀ l ∈ G.ls, l.p.fr ≠ [] := fun l hl => h.ne l.p (List.mem_map.2 ⟨l, hl, rfl⟩)
theorem ahb (ps : List PL) (a b : Vx) : ∃ AH : Bool, AH = true ↔ ahdP ps a b := by
  by_cases h : ahdP ps a b
  · exact ⟨true, ⟨fun _ => h, fun _ => rfl⟩⟩
  · exact ⟨false, ⟨fun e => (by cases e), fun e => absurd e h⟩⟩
/-- an addition, plain: what it answers and leaves -/
theorem add_st {w : World} {p k : Nat} {G : Gm} (h : GAt w p G) (hI : Iv k G.ps) (hk : k < 100000) (up dn : Vx) (hu : Vk up) (hd : Vk dn) (a : Option Addr) (n c : Nat) (ids : List Vx) (hr : VsR w a n ids) (hn : n ≤ 140737488355328) (ta : Option Addr) (tn tc : Nat) (ts : List BA) (ht : TsR w ta tn ts) (AH : Bool) (hAH : AH = true ↔ ahdP G.ps up dn) (E : Int) (hE : addEP G.ps AH up dn ids tn = E) (PS : List PL) (hPS : (if E = 0 then addP G.ps up dn ids ts else G.ps) = PS) (XA XB : List Value) (hXA : up.cells = XA) (hXB : dn.cells = XB) :
    Calls Try.prog 22 #[.pointer (some ⟨p, 0, none⟩), .agg XA.toArray, .agg XB.toArray, .slice a n c, .slice ta tn tc] w fun e w' => e = .returned (iv E) ∧ ∃ G', GAfter w p G G' w' ∧ G'.ps = PS := by
  refine (add_is h (tied_ps hI.tiedP) (hI.len hk) up dn hu hd a n c ids hr hn ta tn tc ts ht AH (by rw [ahd_ps]; exact hAH) E (by rw [addE_ps]; exact hE) XA XB hXA hXB).mono ?_
  rintro e w' ⟨rfl, G', hga, _, hps⟩
  exact ⟨rfl, G', hga, by rw [hps, hPS]⟩
set_option maxHeartbeats 4000000 in
theorem do_is {w : World} {p k : Nat} {G : Gm} (h : GAt w p G) (hI : Iv k G.ps) (hk : k < 100000) (a : AV) (ha : AR w a) (hn : a.inn ≤ 1000 ∧ a.tn ≤ 1000) : Calls Try.prog 14 #[.pointer (some ⟨p, 0, none⟩), .agg a.cells.toArray] w fun e w' => DoP w p G a e w' := by
  have hlen := AV.len ha.1.1 ha.2.1.1 ha.2.2.2.2.1
  obtain ⟨d, hd⟩ : ∃ d, w.heap.size = d := ⟨_, rfl⟩
  obtain ⟨W1, hW1⟩ : ∃ W, w.alloc (.cells a.cells.toArray 38) = W := ⟨_, rfl⟩
  have hb1 : Below w.heap.size w W1 := by rw [← hW1]; exact below_al _ _
  have hk1 : Blk W1 d 38 a.cells := by rw [← hW1, ← hd]; simpa using Blk.new w a.cells.toArray 38
  obtain ⟨CU, hCU⟩ : ∃ C, a.up.cells = C := ⟨_, rfl⟩
  obtain ⟨CD, hCD⟩ : ∃ C, a.dn.cells = C := ⟨_, rfl⟩
  obtain ⟨CY, hCY⟩ : ∃ C, U a.by_ = C := ⟨_, rfl⟩
  have HCU : Hid (a.up.cells = CU) := hCU
  have HCD : Hid (a.dn.cells = CD) := hCD
  have HCY : Hid (U a.by_ = CY) := hCY
  have HI : Hid ((Try.prog.info? 34).map (·.size) = some CU.length ∧ (Try.prog.info? 34).map (·.size) = some CD.length ∧ (Try.prog.info? 32).map (·.size) = some CY.length) := ⟨by rw [← hCU]; exact info34 ha.1.1, by rw [← hCD]; exact info34 ha.2.1.1, by rw [← hCY]; exact info32 _ ha.2.2.2.2.1⟩
  have hrg := AV.ranges hk1 ha.1.1 ha.2.1.1
  rw [hCU, hCD, hCY] at hrg
  have HR : Hid (W1.rangeAt d 1 CU ∧ W1.rangeAt d 34 CD ∧ W1.rangeAt d 69 CY) := ⟨hrg.2.1, hrg.2.2.1, hrg.2.2.2.2.2⟩
  have HG1 : Hid (GAt W1 p G ∧ Below w.heap.size w W1 ∧ Blk W1 d 38 a.cells ∧ w.heap.size = d) := ⟨h.below hb1, hb1, hk1, hd⟩
  have HND : Hid (¬ d ∈ G.bl p) := fun hm => by have := h.lt d hm; omega
  have HA : Hid (Vk a.up ∧ Vk a.dn ∧ a.by_.length = 32 ∧ VsR W1 a.ia a.inn a.ids ∧ TsR W1 a.ta a.tn a.ts ∧ a.inn ≤ 1000 ∧ a.tn ≤ 1000) := ⟨ha.1, ha.2.1, ha.2.2.2.2.1, ha.2.2.1.below hb1, ha.2.2.2.1.below hb1, hn⟩
  have HIV : Hid (Iv k G.ps ∧ k < 100000) := ⟨hI, hk⟩
  have c0 : W1.cell? ⟨d, 0, none⟩ = some (iv a.k) := hrg.1
  have c67 : W1.cell? ⟨d, 67, none⟩ = some (.slice a.ia a.inn a.ic) := hrg.2.2.2.1
  have c68 : W1.cell? ⟨d, 68, none⟩ = some (.slice a.ta a.tn a.tc) := hrg.2.2.2.2.1
  have h1 := AV.one a
  have h2 := Try.underlying38
  have h3 := info38 hlen
  have hbx : (Instr.box 38 (.agg a.cells.toArray)).run Try.prog w = .ok (.pointer (some ⟨d, 0, none⟩)) W1 := by
    obtain ⟨i0, hi0, hs0⟩ := Option.map_eq_some_iff.1 h3
    rw [← hd, ← hW1]
    exact run_box 38 (.agg a.cells.toArray) i0 hi0 (by rw [hs0]; simp [Value.cells]) w
  obtain ⟨C, hC⟩ : ∃ C, a.cells = C := ⟨_, rfl⟩
  rw [hC] at h1 h3 hlen hbx
  rw [hC]
  have HBX := hid_of hbx
  obtain ⟨kk, hkk⟩ : ∃ kk, a.k = kk := ⟨_, rfl⟩
  have HKK := hid_of hkk
  rw [hkk] at c0
  clear h hI hk ha hn hCU hCD hCY hrg hb1 hk1 hC hd hW1 hbx hkk h1 h2 h3 hlen
  go_enter Try.func14, Try.ntmps14
  go_wp2_with (first
    | (with_reducible change wpList _ _ _ ({ dst := some 3, op := _, type := _, pos := _, after := _, guard := _ } :: _) _ _
       refine wpList_boxW (by rfl) 38 (.tmp 1) rfl (.agg C.toArray) (.pointer (some ⟨d, 0, none⟩)) rfl W1 HBX.out ?_)
    | (with_reducible change wpList _ _ _ ({ dst := some 8, op := _, type := _, pos := _, after := _, guard := _ } :: _) _ _
       refine Hid.out ?_)
    | fail)
  show wpList _ _ _ _ _ _
  clear HBX
  by_cases e0 : kk = 0
  · subst e0
    obtain ⟨AH, hAH⟩ := ahb G.ps a.up a.dn
    obtain ⟨E, hE⟩ : ∃ E, addEP G.ps AH a.up a.dn a.ids a.tn = E := ⟨_, rfl⟩
    obtain ⟨PS, hPS⟩ : ∃ PS, (if E = 0 then addP G.ps a.up a.dn a.ids a.ts else G.ps) = PS := ⟨_, rfl⟩
    have HE : Hid ((AH = true ↔ ahdP G.ps a.up a.dn) ∧ addEP G.ps AH a.up a.dn a.ids a.tn = E ∧ (if E = 0 then addP G.ps a.up a.dn a.ids a.ts else G.ps) = PS) := ⟨hAH, hE, hPS⟩
    clear hAH hE hPS
    go_wp2_with fail
    have HADD : Hid (∀ V a1 c1 a2 c2, Below W1.heap.size W1 V → VsR V a1 a.inn a.ids → TsR V a2 a.tn a.ts → Calls Try.prog 22 #[.pointer (some ⟨p, 0, none⟩), .agg CU.toArray, .agg CD.toArray, .slice a1 a.inn c1, .slice a2 a.tn c2] V fun e w' => e = .returned (iv E) ∧ ∃ G', GAfter V p G G' w' ∧ G'.ps = PS) := fun V a1 c1 a2 c2 hb hv ht =>
      add_st (HG1.out.1.below hb) HIV.out.1 HIV.out.2 a.up a.dn HA.out.1 HA.out.2.1 a1 a.inn c1 a.ids hv (by have := HA.out.2.2.2.2.2.1; omega) a2 a.tn c2 a.ts ht AH HE.out.1 E HE.out.2.1 PS HE.out.2.2 CU CD HCU.out HCD.out
    refine do3 ⟨HG1.out.2.2.1.lt, HND.out⟩ ⟨HR.out.1, HI.out.1⟩ ⟨HR.out.2.1, HI.out.2.1⟩ c67 c68 ⟨HA.out.2.2.2.1, by have := HA.out.2.2.2.2.2.1; omega⟩ ⟨HA.out.2.2.2.2.1, by have := HA.out.2.2.2.2.2.2; omega⟩ HADD ?_
    intro V3 r1 r2 a1 c1 a2 c2 G' hkp hx
    have HF : Hid (DoP w p G a (.returned (iv E)) V3) := by
      refine ⟨E, G', rfl, GAfter.first HG1.out.2.1 ⟨hx.1, hx.2.2, hkp⟩, .inl ⟨HKK.out, AH, HE.out.1, HE.out.2.1.symm, by rw [hx.2.1, HE.out.2.2]⟩⟩
    clear hkp hx HADD
    go_wp2
    go_ret
    exact HF.out
  have q0 : (kk == 0) = false := by simpa using e0
  by_cases e1 : kk = 1
  · subst e1
    obtain ⟨E, hE⟩ : ∃ E, dropE G.ps a.ids = E := ⟨_, rfl⟩
    obtain ⟨PS, hPS⟩ : ∃ PS, (if E = 0 then dropP G.ps a.ids else G.ps) = PS := ⟨_, rfl⟩
    have HE : Hid (dropE G.ps a.ids = E ∧ (if E = 0 then dropP G.ps a.ids else G.ps) = PS) := ⟨hE, hPS⟩
    clear hE hPS q0 e0
    go_wp2_with (first
      | (with_reducible change wpList _ _ _ ({ dst := some 26, op := _, type := _, pos := _, after := _, guard := _ } :: _) _ _
         refine Hid.out ?_)
      | fail)
    show wpList _ _ _ _ _ _
    refine wpList_bz rfl 35 rfl _ _ (bs35z _) ?_
    obtain ⟨W2, hW2⟩ : ∃ W, W1.alloc (.cells #[] 34) = W := ⟨_, rfl⟩
    obtain ⟨r1, hr1⟩ : ∃ r, W1.heap.size = r := ⟨_, rfl⟩
    have hb2 : Below W1.heap.size W1 W2 := by rw [← hW2]; exact below_al _ _
    have HZ : Hid (Blk W2 r1 34 [] ∧ W1.heap.size ≤ r1 ∧ Below W1.heap.size W1 W2) := ⟨by rw [← hW2, ← hr1]; exact Blk.new W1 _ _, Nat.le_of_eq hr1, hb2⟩
    have c67 : W2.cell? ⟨d, 67, none⟩ = some (.slice a.ia a.inn a.ic) := (cell_same (hb2.block d HG1.out.2.2.1.lt)).trans c67
    rw [hW2, hr1]
    clear hW2 hr1 hb2 c0 c68
    go_wp2_with (first
      | (with_reducible change wpList _ _ _ ({ dst := some 29, op := _, type := _, pos := _, after := _, guard := _ } :: _) _ _
         refine Hid.out ?_)
      | fail)
    show wpList _ _ _ _ _ _
    obtain ⟨a1, c1, W3, hr, hv, ha1, hg⟩ := cp_ids W2 35 r1 a.inn a.ic a.ia a.ids HZ.out.1 (HA.out.2.2.2.1.below HZ.out.2.2) (by have := HA.out.2.2.2.2.2.1; omega)
    refine wpList_ap rfl 35 35 _ _ rfl _ _ rfl rfl _ _ hr ?_
    have hb3 : Below W1.heap.size W1 W3 := HZ.out.2.2.grown hg HZ.out.2.2.size (fun k hk => by have e := Option.some.inj hk; have := HZ.out.2.1; omega)
    have S3 : Hid (Below w.heap.size w W3 ∧ GAt W3 p G ∧ VsR W3 a1 a.inn a.ids ∧ ∀ g off, a1 = some ⟨g, off, none⟩ → g ∉ G.bl p) := by
      refine ⟨below_tr HG1.out.2.1 hb3, HG1.out.1.below hb3, hv, fun g off e hm => ?_⟩
      have h5 := ha1 g off e
      have h6 := HG1.out.1.lt g hm
      have h7 := HZ.out.2.1
      omega
    clear hr hv ha1 hg hb3 HZ c67
    go_wp2_with fail
    refine (drop_is S3.out.2.1 HIV.out.1.nef a1 a.inn c1 a.ids S3.out.2.2.1 (by have := HA.out.2.2.2.2.2.1; omega) S3.out.2.2.2 E HE.out.1 PS HE.out.2).mono ?_
    rintro e W4 ⟨rfl, G', hga, _, hps⟩
    have HF : Hid (DoP w p G a (.returned (iv E)) W4) := ⟨E, G', rfl, GAfter.first S3.out.1 hga, .inr (.inl ⟨HKK.out, HE.out.1.symm, by rw [hps, HE.out.2]⟩)⟩
    clear hga hps
    go_wp2
    go_ret
    exact HF.out
  have q1 : (kk == 1) = false := by simpa using e1
  by_cases e2 : kk = 2
  · subst e2
    obtain ⟨E, hE⟩ : ∃ E, killE G.ps a.up a.by_ = E := ⟨_, rfl⟩
    obtain ⟨PS, hPS⟩ : ∃ PS, (if E = 0 then turnP ((· ++ [a.by_])) G.ps a.up else G.ps) = PS := ⟨_, rfl⟩
    have HE : Hid (killE G.ps a.up a.by_ = E ∧ (if E = 0 then turnP ((· ++ [a.by_])) G.ps a.up else G.ps) = PS) := ⟨hE, hPS⟩
    clear hE hPS q0 e0 q1 e1
    go_wp2_with (first
      | (with_reducible change wpList _ _ _ ({ dst := some 35, op := _, type := _, pos := _, after := _, guard := _ } :: _) _ _
         refine wpList_load_want rfl 34 (.tmp 34) rfl d 1 rfl CU _ HR.out.1 Try.underlying34 rfl HI.out.1 ?_)
      | (with_reducible change wpList _ _ _ ({ dst := some 37, op := _, type := _, pos := _, after := _, guard := _ } :: _) _ _
         refine wpList_load_want rfl 32 (.tmp 36) rfl d 69 rfl CY _ HR.out.2.2 Try.underlying32 rfl HI.out.2.2 ?_)
      | fail)
    refine (kill_is HG1.out.1 a.up HA.out.1 a.by_ (show MK.ok a.by_ from HA.out.2.2.1) CU HCU.out CY HCY.out E HE.out.1 PS HE.out.2).mono ?_
    rintro e W4 ⟨rfl, G', hga, hps⟩
    have HF : Hid (DoP w p G a (.returned (iv E)) W4) := ⟨E, G', rfl, GAfter.first HG1.out.2.1 hga, .inr (.inr (.inl ⟨HKK.out, HE.out.1.symm, by rw [hps, HE.out.2]⟩))⟩
    clear hga hps
    go_wp2
    go_ret
    exact HF.out
  have q2 : (kk == 2) = false := by simpa using e2
  have HKN : Hid (a.k ≠ 0 ∧ a.k ≠ 1 ∧ a.k ≠ 2) := ⟨by rw [HKK.out]; exact e0, by rw [HKK.out]; exact e1, by rw [HKK.out]; exact e2⟩
  obtain ⟨E, hE⟩ : ∃ E, unkillE G.ps a.up a.by_ = E := ⟨_, rfl⟩
  obtain ⟨PS, hPS⟩ : ∃ PS, (if E = 0 then turnP (fun l => l.filter (fun x => decide (x ≠ a.by_))) G.ps a.up else G.ps) = PS := ⟨_, rfl⟩
  have HE : Hid (unkillE G.ps a.up a.by_ = E ∧ (if E = 0 then turnP (fun l => l.filter (fun x => decide (x ≠ a.by_))) G.ps a.up else G.ps) = PS) := ⟨hE, hPS⟩
  clear hE hPS e0 e1 e2
  go_wp2_with (first
    | (with_reducible change wpList _ _ _ ({ dst := some 41, op := _, type := _, pos := _, after := _, guard := _ } :: _) _ _
       refine wpList_load_want rfl 34 (.tmp 40) rfl d 1 rfl CU _ HR.out.1 Try.underlying34 rfl HI.out.1 ?_)
    | (with_reducible change wpList _ _ _ ({ dst := some 43, op := _, type := _, pos := _, after := _, guard := _ } :: _) _ _
       refine wpList_load_want rfl 32 (.tmp 42) rfl d 69 rfl CY _ HR.out.2.2 Try.underlying32 rfl HI.out.2.2 ?_)
    | fail)
  refine (unkill_is HG1.out.1 a.up HA.out.1 a.by_ (show MK.ok a.by_ from HA.out.2.2.1) CU HCU.out CY HCY.out E HE.out.1 PS HE.out.2).mono ?_
  rintro e W4 ⟨rfl, G', hga, hps⟩
  have HF : Hid (DoP w p G a (.returned (iv E)) W4) := ⟨E, G', rfl, GAfter.first HG1.out.2.1 hga, .inr (.inr (.inr ⟨HKN.out.1, HKN.out.2.1, HKN.out.2.2, HE.out.1.symm, by rw [hps, HE.out.2]⟩))⟩
  clear hga hps
  go_wp2
  go_ret
  exact HF.out
end Go.Proofs.Ytjcihaohpbmogaa.Oct

/- Layer 11 (lines): built. -/
namespace Go.Proofs.Ytjcihaohpbmogaa.Oct
open Go.RowKit
set_option maxRecDepth 100000
set_option linter.unusedSimpArgs false
set_option linter.unusedVariables false
set_option linter.unusedSectionVars false

/-- a graph that calls made, in memory of its own -/
def BuiltP (w : World) (n : Nat) (e : Ending) (w' : World) : Prop := ∃ p G, e = .returned (.pointer (some ⟨p, 0, none⟩)) ∧ GAt w' p G ∧ (∀ b ∈ G.bl p, w.heap.size ≤ b) ∧ Iv (n + 1) G.ps ∧ Below w.heap.size w w'
/-- where the loop stands -/
def BL (w : World) (p i : Nat) (wr : World) : Prop := ∃ G, GAt wr p G ∧ (∀ b ∈ G.bl p, w.heap.size ≤ b) ∧ Iv (i + 1) G.ps ∧ Below w.heap.size w wr
theorem BL.below {w wr wr' : World} {p i : Nat} (h : BL w p i wr) (hb : Below wr.heap.size wr wr') : BL w p i wr' := by
  obtain ⟨G, h1, h2, h3, h4⟩ := h
  exact ⟨G, h1.below hb, h2, h3, below_tr h4 hb⟩
theorem BL.next {w wr : World} {p i : Nat} (h : BL w p i wr) : BL w p (i + 1) wr := by
  obtain ⟨G, h1, h2, h3, h4⟩ := h
  exact ⟨G, h1, h2, h3.more (by omega), h4⟩
set_option maxHeartbeats 4000000 in
theorem built_is (w : World) (a : Option Addr) (n c : Nat) (acts : List AV) (hr : ActsR w a n acts) (hn : n ≤ 1000) (hs : ∀ x ∈ acts, x.inn ≤ 1000 ∧ x.tn ≤ 1000) : Calls Try.prog 16 #[.slice a n c] w fun e w' => BuiltP w n e w' := by
  have HS : Hid (ActsR w a n acts ∧ n ≤ 1000 ∧ ∀ x ∈ acts, x.inn ≤ 1000 ∧ x.tn ≤ 1000) := ⟨hr, hn, hs⟩
  have q0 : (n : Int) ≤ 1000 := by omega
  obtain ⟨Z, hZ, HZ⟩ := zval38
  clear hr hn hs
  go_enter Try.func16, Try.ntmps16
  go_wp2_with fail
  refine (new_is w).mono ?_
  rintro e W1 ⟨p, G0, rfl, HG, HB1⟩
  have HB : Hid (BL w p 0 W1) := ⟨G0, HG.out.1, HG.out.2.2, by rw [HG.out.2.1]; exact Iv.none, HB1.out⟩
  clear HG HB1
  go_wp2
  go_loopw [9] (fun u wr => ∃ i : Nat, u = iv (i : Int) ∧ Hid (i ≤ n ∧ BL w p i wr)) (fun u _ => n - (intOf u).toNat)
  case atStart => exact ⟨0, rfl, Nat.zero_le _, HB.out⟩
  case round =>
    obtain ⟨V, hV⟩ : ∃ V, V = wr := ⟨_, rfl⟩
    subst hV
    obtain ⟨i, rfl, HI⟩ := hrel
    clear HB
    by_cases hi : i < n
    · obtain ⟨x, hx⟩ : ∃ x, acts[i]? = some x := ⟨_, List.getElem?_eq_getElem (by rw [HS.out.1.1]; exact hi)⟩
      have har := HS.out.1.2.1 x (List.mem_of_getElem? hx)
      have hlen := AV.len har.1.1 har.2.1.1 har.2.2.2.2.1
      have HX : Hid (i < n ∧ acts[i]? = some x ∧ x.up.ok ∧ x.dn.ok ∧ x.cells.length = 101 ∧ (x.inn ≤ 1000 ∧ x.tn ≤ 1000)) := ⟨hi, hx, har.1.1, har.2.1.1, hlen, HS.out.2.2 x (List.mem_of_getElem? hx)⟩
      obtain ⟨G, hG1, hG2, hG3, hG4⟩ := HI.out.2
      have HG : Hid (GAt V p G ∧ (∀ b ∈ G.bl p, w.heap.size ≤ b) ∧ Iv (i + 1) G.ps ∧ Below w.heap.size w V) := ⟨hG1, hG2, hG3, hG4⟩
      obtain ⟨gb, off, rfl, hg, hel⟩ := HS.out.1.2.2 (by omega)
      have HR : Hid (V.rangeAt gb (off + i * 101) x.cells) := rangeAt_same (hel i x hx) (hG4.block gb hg)
      have q1 : (i : Int) < (n : Int) := by omega
      clear har hlen hel hx hi hg hG1 hG2 hG3 hG4 HI
      go_wp2_with (first
        | (with_reducible change wpList _ _ _ ({ dst := some 12, op := _, type := _, pos := _, after := _, guard := _ } :: _) _ _
           refine wpList_load_want rfl 38 (.tmp 11) rfl gb (off + i * 101) rfl x.cells _ HR.out Try.underlying38 rfl (info38 HX.out.2.2.2.2.1) ?_)
        | (with_reducible change wpList _ _ _ ({ dst := none, op := Op.store 38 _ _, type := _, pos := _, after := _, guard := _ } :: _) _ _
           refine Hid.out ?_)
        | fail)
      show wpList _ _ _ _ _ _
      refine wpList_store_fresh rfl 38 (.tmp 5) (.tmp 12) rfl Z x.cells 38 rfl rfl (by rw [HX.out.2.2.2.2.1, HZ.out]) (info38 HX.out.2.2.2.2.1) (AV.one x) ?_
      obtain ⟨U1, hU1⟩ : ∃ W, V.alloc (.cells x.cells.toArray 38) = W := ⟨_, rfl⟩
      obtain ⟨d5, hd5⟩ : ∃ g, V.heap.size = g := ⟨_, rfl⟩
      have S1 : Hid (GAt U1 p G ∧ (∀ b ∈ G.bl p, w.heap.size ≤ b) ∧ Iv (i + 1) G.ps ∧ Below w.heap.size w U1 ∧ Blk U1 d5 38 x.cells ∧ AR U1 x) := by
        have hbl : Below V.heap.size V U1 := by rw [← hU1]; exact below_al _ _
        have h4 := below_tr HG.out.2.2.2 hbl
        exact ⟨HG.out.1.below hbl, HG.out.2.1, HG.out.2.2.1, h4, by rw [← hU1, ← hd5]; exact Blk.new V _ _, (HS.out.1.2.1 x (List.mem_of_getElem? HX.out.2.1)).below h4⟩
      rw [hU1, hd5]
      clear hU1 hd5 HR HG
      have hrg := AV.ranges S1.out.2.2.2.2.1 HX.out.2.2.1 HX.out.2.2.2.1
      obtain ⟨kk, hkk⟩ : ∃ kk, x.k = kk := ⟨_, rfl⟩
      have c0 : U1.cell? ⟨d5, 0, none⟩ = some (iv kk) := by rw [← hkk]; exact hrg.1
      clear hrg hkk
      by_cases hc : kk = 4
      · subst hc
        have HN : Hid (i + 1 ≤ n ∧ BL w p (i + 1) U1) := ⟨HX.out.1, BL.next ⟨G, S1.out.1, S1.out.2.1, S1.out.2.2.1, S1.out.2.2.2.1⟩⟩
        have HM : Hid (i < n) := HX.out.1
        clear S1
        go_wp2
        refine ⟨⟨i + 1, by simp, HN.out⟩, ?_⟩
        have := HM.out; simp [intOf]; omega
      · have q2 : (kk == 4) = false := by simpa using hc
        have q3 : (kk != 4) = true := by simpa using hc
        clear hc
        go_wp2_with (first
          | (with_reducible change wpList _ _ _ ({ dst := some 17, op := _, type := _, pos := _, after := _, guard := _ } :: _) _ _
             refine wpList_load_want rfl 38 (.tmp 5) rfl d5 0 rfl x.cells _ S1.out.2.2.2.2.1.range0 Try.underlying38 rfl (info38 HX.out.2.2.2.2.1) ?_)
          | fail)
        refine (do_is S1.out.1 S1.out.2.2.1 (by have := HS.out.2.1; have := HX.out.1; omega) x S1.out.2.2.2.2.2 HX.out.2.2.2.2.2).mono ?_
        rintro e U2 ⟨E, G', rfl, hga, hst⟩
        have HN : Hid (i + 1 ≤ n ∧ BL w p (i + 1) U2) := by
          refine ⟨HX.out.1, G', hga.1, fun b hb => ?_, S1.out.2.2.1.step (by omega) hst, S1.out.2.2.2.1.trans (hga.2.2.toBelow S1.out.2.2.2.1.size S1.out.2.1)⟩
          rcases hga.2.1 b hb with h | h
          · exact S1.out.2.1 b h
          · exact Nat.le_trans S1.out.2.2.2.1.size h
        have HM : Hid (i < n) := HX.out.1
        clear hga hst S1 c0 q2 q3
        go_wp2
        refine ⟨⟨i + 1, by simp, HN.out⟩, ?_⟩
        have := HM.out; simp [intOf]; omega
    · have q1 : ¬ (i : Int) < (n : Int) := by omega
      obtain rfl : i = n := by have := HI.out.1; omega
      have HF : Hid (BuiltP w i (.returned (.pointer (some ⟨p, 0, none⟩))) V) := by
        obtain ⟨G, h1, h2, h3, h4⟩ := HI.out.2
        exact ⟨p, G, rfl, h1, h2, h3, h4⟩
      clear HI hi
      go_wp2
      go_ret
      exact HF.out
end Go.Proofs.Ytjcihaohpbmogaa.Oct

/- Layer 11 (lines): a line's copy. -/
namespace Go.Proofs.Ytjcihaohpbmogaa.Oct
open Go.RowKit
set_option maxRecDepth 100000
set_option linter.unusedSimpArgs false
set_option linter.unusedVariables false
set_option linter.unusedSectionVars false

theorem cells86 {l : Ln} (h : LnOk l) : l.cells.length = 36 := by
  unfold Ln.cells
  simp [Vx.len h.down.1]
theorem info86 {L : List Value} (h : L.length = 36) : (Try.prog.info? 86).map (·.size) = some L.length := by rw [h]; show _ = some 36; kernel_rfl
theorem zval86 : ∃ Z : List Value, (∀ W, (zeroValue 86).run Try.prog W = .ok (.agg Z.toArray) W) ∧ Hid (Z.length = 36) := ⟨.string ⟨#[]⟩ :: .slice none 0 0 :: (vTop.cells ++ [.map none]), fun W => by kernel_rfl, by rfl⟩
theorem cells86_one {l : Ln} : ∀ v ∈ l.cells, v.oneCell' = true := by
  intro v hv
  unfold Ln.cells at hv
  simp only [List.mem_cons, List.mem_append, List.not_mem_nil, or_false] at hv
  rcases hv with rfl | rfl | h | rfl
  · rfl
  · rfl
  · exact Vx.one _ v h
  · rfl
theorem neq35 (a : Addr) (n c : Nat) (W : World) : (binOp BinOp.eql 35 (.slice (some a) n c) (.slice none 0 0)).run Try.prog W = .ok (.bool false) W := by kernel_rfl
def Cl58P (w : World) (n : Nat) (vs : List Vx) (e : Ending) (w' : World) : Prop := ∃ v, e = .returned v ∧ OV w.heap.size w' v n vs ∧ Below w.heap.size w w'
theorem clone58 (w : World) (a : Addr) (n c : Nat) (vs : List Vx) (hv : VsR w (some a) n vs) (hn : n ≤ 1000000) : Calls Try.prog 58 #[.slice (some a) n c] w fun e w' => Cl58P w n vs e w' := by
  have HV : Hid (VsR w (some a) n vs ∧ n ≤ 1000000) := ⟨hv, hn⟩
  have hq := neq35 a n c
  clear hv hn
  go_enter Try.func58, Try.ntmps58
  go_wp2_with (first
    | (with_reducible change wpList _ _ _ ({ dst := some 5, op := _, type := _, pos := _, after := _, guard := _ } :: _) _ _
       refine Hid.out ?_)
    | fail)
  show wpList _ _ _ _ _ _
  refine wpList_bz rfl 35 rfl _ _ (bs35z _) ?_
  obtain ⟨W2, hW2⟩ : ∃ W, w.alloc (.cells #[] 34) = W := ⟨_, rfl⟩
  obtain ⟨r1, hr1⟩ : ∃ r, w.heap.size = r := ⟨_, rfl⟩
  have hb2 : Below w.heap.size w W2 := by rw [← hW2]; exact below_al _ _
  have HZ : Hid (Blk W2 r1 34 [] ∧ w.heap.size = r1 ∧ Below w.heap.size w W2) := ⟨by rw [← hW2, ← hr1]; exact Blk.new w _ _, hr1, hb2⟩
  rw [hW2, hr1]
  clear hW2 hr1 hb2 hq
  go_wp2_with (first
    | (with_reducible change wpList _ _ _ ({ dst := some 7, op := _, type := _, pos := _, after := _, guard := _ } :: _) _ _
       refine Hid.out ?_)
    | fail)
  show wpList _ _ _ _ _ _
  have ho : OV r1 W2 (.slice (some ⟨r1, 0, none⟩) 0 0) 0 [] := ⟨⟨rfl, .inr ⟨r1, 0, #[], rfl, Nat.le_refl _, HZ.out.1, Nat.le_refl _, by unfold maxLen; omega, rfl, rfl⟩⟩, by simp⟩
  obtain ⟨v', W', h1, h2, h3, _⟩ := run_app W2 r1 35 _ 0 [] (some a) n c vs ho (HV.out.1.below HZ.out.2.2) (by have := HV.out.2; omega) (Nat.le_of_lt HZ.out.1.lt)
  rw [Nat.zero_add, List.nil_append] at h2
  refine wpList_ap rfl 35 35 _ _ rfl _ _ rfl rfl _ _ h1 ?_
  have HF : Hid (Cl58P w n vs (.returned v') W') := by
    refine ⟨v', rfl, by rw [HZ.out.2.1]; exact h2, HZ.out.2.2.grown h3 HZ.out.2.2.size (fun k hk => ?_)⟩
    have e : r1 = k := Option.some.inj hk
    have := HZ.out.2.1
    omega
  clear ho h1 h2 h3 HZ
  go_wp2
  go_ret
  exact HF.out
def Cl59P (w : World) (kb : Option Nat) (L : List Hs) (e : Ending) (w' : World) : Prop := ∃ kb', e = .returned (.map kb') ∧ (kb' = none ↔ kb = none) ∧ (∀ k, kb' = some k → w.heap.size ≤ k ∧ MP w' k (unitH L)) ∧ Below w.heap.size w w'
theorem clone59 (w : World) (kb : Option Nat) (L : List Hs) (h : ∀ k, kb = some k → MP w k (unitH L)) : Calls Try.prog 59 #[.map kb] w fun e w' => Cl59P w kb L e w' := by
  cases kb with
  | none =>
    refine (Go.Proofs.AnyW.maps_Clone_nil laysMC w).mono ?_
    rintro e w' ⟨rfl, rfl⟩
    exact ⟨none, rfl, by simp, by simp, Below.refl _ _⟩
  | some k =>
    obtain ⟨es, ⟨clock, h1, h2, h3, h4, h5⟩, h6⟩ := h k rfl
    refine (Go.Proofs.AnyW.maps_Clone laysMC k _ clock w h1).mono ?_
    rintro e w' ⟨rfl, rfl⟩
    refine ⟨some w.heap.size, rfl, by simp, fun k' e => ?_, below_al _ _⟩
    cases e
    exact ⟨Nat.le_refl _, es, ⟨clock, by simpa using heap_alloc_new w (.map (es.map Ent.me).toArray clock), h2, h3, h4, h5⟩, h6⟩
/-- a copy of a line, all of it in new memory -/
def CopyP (w : World) (l : Ln) (e : Ending) (w' : World) : Prop := ∃ l' : Ln, e = .returned (.pointer (some ⟨l'.blk, 0, none⟩)) ∧ l'.p = l.p ∧ (∀ k ∈ l'.bl, w.heap.size ≤ k) ∧ l'.bl.Nodup ∧ (∀ x ∈ l'.hp, x.2.at w' x.1) ∧ LnOk l' ∧ Below w.heap.size w w'
set_option maxHeartbeats 4000000 in
theorem copy_is {w : World} {p : Nat} {G : Gm} (h : GAt w p G) {l : Ln} (hl : l ∈ G.ls) (hne : l.p.fr ≠ []) : Calls Try.prog 31 #[.pointer (some ⟨l.blk, 0, none⟩)] w fun e w' => CopyP w l e w' := by
  have hok := h.ok l hl
  have hlen := cells86 hok
  obtain ⟨Z, hZ, HZ⟩ := zval86
  have hkb : w.cell? ⟨l.blk, 35, none⟩ = some (.map l.kb) := by
    refine (h.ln hl).cell ?_
    unfold Ln.cells
    rw [List.getElem?_cons_succ, List.getElem?_cons_succ, List.getElem?_append_right (by rw [Vx.len hok.down.1]; exact Nat.le_refl 33), Vx.len hok.down.1]
    rfl
  have HL : Hid (GAt w p G ∧ l ∈ G.ls ∧ l.p.fr ≠ [] ∧ LnOk l ∧ l.cells.length = 36) := ⟨h, hl, hne, hok, hlen⟩
  have HB0 : Hid (Blk w l.blk 86 l.cells) := h.ln hl
  have HR0 : Hid (VsR w (some ⟨l.rb, 0, none⟩) l.p.fr.length l.p.fr) := (h.row hl).vs hok.fr
  have HK0 : Hid (∀ k, l.kb = some k → MP w k (unitH l.p.kills)) := fun k hk => h.kl hl hk
  have c1 : w.cell? ⟨l.blk, 1, none⟩ = some (.slice (some ⟨l.rb, 0, none⟩) l.p.fr.length l.cap) := (h.ln hl).cell rfl
  obtain ⟨lb, hlb⟩ : ∃ b, l.blk = b := ⟨_, rfl⟩
  obtain ⟨C, hC⟩ : ∃ C, l.cells = C := ⟨_, rfl⟩
  have HC : Hid (l.cells = C ∧ l.blk = lb) := ⟨hC, hlb⟩
  obtain ⟨d, hd⟩ : ∃ d, w.heap.size = d := ⟨_, rfl⟩
  obtain ⟨W1, hW1⟩ : ∃ W, w.alloc (.cells C.toArray 86) = W := ⟨_, rfl⟩
  have hb1 : Below w.heap.size w W1 := by rw [← hW1]; exact below_al _ _
  have hlt := (h.ln hl).lt
  have S1 : Hid (Below w.heap.size w W1 ∧ Blk W1 d 86 C ∧ w.heap.size = d ∧ W1.heap.size = d + 1) := ⟨hb1, by rw [← hW1, ← hd]; exact Blk.new w _ _, hd, by rw [← hW1, ← hd]; simp⟩
  rw [hlb, hC] at HB0
  rw [hlb] at c1 hkb
  rw [hlb]
  have c1' : W1.cell? ⟨lb, 1, none⟩ = some (.slice (some ⟨l.rb, 0, none⟩) l.p.fr.length l.cap) := (cell_same (hb1.block lb (by rw [← hlb]; exact hlt))).trans c1
  have hkb' : W1.cell? ⟨lb, 35, none⟩ = some (.map l.kb) := (cell_same (hb1.block lb (by rw [← hlb]; exact hlt))).trans hkb
  have HC1 := hid_of hkb'
  have HW1 : Hid (w.alloc (.cells C.toArray 86) = W1 ∧ w.heap.size = d) := ⟨hW1, hd⟩
  have HLB : Hid (lb < w.heap.size) := by show lb < _; rw [← hlb]; exact hlt
  clear h hl hne hok hlen hkb c1 hb1 hlt hC hlb hd hW1 hkb'
  go_enter Try.func31, Try.ntmps31
  go_wp2_with (first
    | (with_reducible change wpList _ _ _ ({ dst := some 6, op := _, type := _, pos := _, after := _, guard := _ } :: _) _ _
       refine wpList_load_want rfl 86 (.tmp 5) rfl lb 0 rfl C _ HB0.out.range0 Try.underlying86 rfl (info86 (by rw [← HC.out.1]; exact HL.out.2.2.2.2)) ?_)
    | (with_reducible change wpList _ _ _ ({ dst := none, op := Op.store 86 _ _, type := _, pos := _, after := _, guard := _ } :: _) _ _
       refine Hid.out ?_)
    | fail)
  show wpList _ _ _ _ _ _
  refine wpList_store_fresh rfl 86 (.tmp 3) (.tmp 6) rfl Z C 86 rfl rfl (by rw [← HC.out.1, HL.out.2.2.2.2, HZ.out]) (info86 (by rw [← HC.out.1]; exact HL.out.2.2.2.2)) (by rw [← HC.out.1]; exact cells86_one) ?_
  rw [HW1.out.1, HW1.out.2]
  clear HW1 hZ HB0
  go_wp2_with fail
  refine (clone58 W1 ⟨l.rb, 0, none⟩ l.p.fr.length l.cap l.p.fr (HR0.out.below S1.out.1) (by have := HL.out.2.2.2.1.len; omega)).mono ?_
  rintro e W2 ⟨v, rfl, ho, hb⟩
  obtain ⟨a1, c1, rfl, hvs, hnc, hor⟩ := ho.read
  have hpos : 0 < l.p.fr.length := List.length_pos_iff.2 HL.out.2.2.1
  obtain ⟨g, rfl, hg⟩ : ∃ g, a1 = some ⟨g, 0, none⟩ ∧ W1.heap.size ≤ g := by
    rcases hor with h | h
    · obtain ⟨g, off, e, _⟩ := hvs.2.2 hpos
      rw [h] at e
      cases e
    · exact h
  have hsz := S1.out.2.2.2
  have S2 : Hid (Below w.heap.size w W2 ∧ Blk W2 d 86 C ∧ OV W1.heap.size W2 (.slice (some ⟨g, 0, none⟩) l.p.fr.length c1) l.p.fr.length l.p.fr ∧ d < g) := ⟨below_tr S1.out.1 hb, S1.out.2.1.below hb S1.out.2.1.lt, ho, by omega⟩
  have c2 : W2.cell? ⟨lb, 35, none⟩ = some (.map l.kb) := (cell_same (hb.block lb (Nat.lt_of_lt_of_le HLB.out S1.out.1.size))).trans HC1.out
  clear ho hb hvs hnc hor hpos hg hsz c1'
  go_wp2_with (first
    | (with_reducible change wpList _ _ _ ({ dst := none, op := Op.store 35 _ _, type := _, pos := _, after := _, guard := _ } :: _) _ _
       refine Hid.out ?_)
    | fail)
  show wpList _ _ _ _ _ _
  refine wpList_stc rfl 35 (.tmp 12) (.tmp 11) rfl (by kernel_rfl) (b := d) (i := 1) (t := 86) (L := C) (u := .slice (some ⟨l.rb, 0, none⟩) l.p.fr.length l.cap) rfl rfl rfl rfl S2.out.2.1 (by rw [← HC.out.1]; rfl) ?_
  intro W3 r1 r2
  have S3 : Hid (Below w.heap.size w W3 ∧ Blk W3 d 86 (C.set 1 (.slice (some ⟨g, 0, none⟩) l.p.fr.length c1)) ∧ OV 0 W3 (.slice (some ⟨g, 0, none⟩) l.p.fr.length c1) l.p.fr.length l.p.fr ∧ d < g ∧ W2.heap.size ≤ W3.heap.size) := by
    refine ⟨S2.out.1.grown r2 S2.out.1.size (fun k hk => ?_), r1, (S2.out.2.2.1.kept r2 (by have := S1.out.2.2.2; omega)).lo (Nat.zero_le _), S2.out.2.2.2, r2.size⟩
    have e := Option.some.inj hk
    have := S1.out.2.2.1
    omega
  have HKW : Hid (∀ k, l.kb = some k → MP W3 k (unitH l.p.kills)) := fun k hk => (HK0.out k hk).same (S3.out.1.block k (HK0.out k hk).lt)
  have c3 : W3.cell? ⟨lb, 35, none⟩ = some (.map l.kb) := (cell_same (r2.block lb (Nat.lt_of_lt_of_le HLB.out S2.out.1.size) (fun e => by have e := Option.some.inj e; have := S1.out.2.2.1; have := HLB.out; omega))).trans c2
  clear r1 r2 S2 c2 HK0 HC1
  go_wp2_with fail
  refine (clone59 W3 l.kb l.p.kills HKW.out).mono ?_
  rintro e W4 ⟨kb', rfl, hkn, hkm, hb⟩
  have S4 : Hid (Below w.heap.size w W4 ∧ Blk W4 d 86 (C.set 1 (.slice (some ⟨g, 0, none⟩) l.p.fr.length c1)) ∧ OV 0 W4 (.slice (some ⟨g, 0, none⟩) l.p.fr.length c1) l.p.fr.length l.p.fr ∧ d < g ∧ (∀ k, kb' = some k → W3.heap.size ≤ k ∧ MP W4 k (unitH l.p.kills)) ∧ (kb' = none ↔ l.kb = none) ∧ g < W3.heap.size) := by
    obtain ⟨rest, r1, _⟩ := S3.out.2.2.1.blk
    exact ⟨below_tr S3.out.1 hb, S3.out.2.1.below hb S3.out.2.1.lt, S3.out.2.2.1.below hb, S3.out.2.2.2.1, hkm, hkn, r1.lt⟩
  clear hkn hkm hb c3 HKW
  go_wp2_with (first
    | (with_reducible change wpList _ _ _ ({ dst := none, op := Op.store 84 _ _, type := _, pos := _, after := _, guard := _ } :: _) _ _
       refine Hid.out ?_)
    | fail)
  show wpList _ _ _ _ _ _
  refine wpList_stc rfl 84 (.tmp 18) (.tmp 17) rfl (by kernel_rfl) (b := d) (i := 35) (t := 86) (L := C.set 1 (.slice (some ⟨g, 0, none⟩) l.p.fr.length c1)) (u := .map l.kb) rfl rfl rfl rfl S4.out.2.1 (by
    rw [← HC.out.1]
    show (l.cells.set 1 _)[35]? = _
    unfold Ln.cells
    rw [List.set_cons_succ, List.set_cons_zero, List.getElem?_cons_succ, List.getElem?_cons_succ, List.getElem?_append_right (by rw [Vx.len HL.out.2.2.2.1.down.1]; exact Nat.le_refl 33), Vx.len HL.out.2.2.2.1.down.1]
    rfl) ?_
  intro W5 r1 r2
  have HF : Hid (CopyP w l (.returned (.pointer (some ⟨d, 0, none⟩))) W5) := by
    obtain ⟨rest, b1, b2, b3, b4⟩ := S4.out.2.2.1.blk
    have hd : w.heap.size = d := S1.out.2.2.1
    have hw3 : g < W3.heap.size := S4.out.2.2.2.2.2.2
    have hdg := S4.out.2.2.2.1
    refine ⟨⟨l.p, d, g, c1, rest, kb'⟩, rfl, rfl, ?_, ?_, ?_, ?_, ?_⟩
    · intro k hk
      unfold Ln.bl at hk
      simp only [List.mem_cons] at hk
      rcases hk with e | e | e
      · omega
      · omega
      · cases hkk : kb' with
        | none => rw [hkk] at e; cases e
        | some k' =>
          rw [hkk] at e
          have e := List.mem_singleton.1 e
          have := (S4.out.2.2.2.2.1 k' hkk).1
          omega
    · unfold Ln.bl
      cases hkk : kb' with
      | none => simp; omega
      | some k' =>
        have := (S4.out.2.2.2.2.1 k' hkk).1
        simp
        omega
    · intro x hx
      unfold Ln.hp at hx
      simp only [List.mem_cons] at hx
      rcases hx with rfl | rfl | hx
      · show Blk W5 d 86 _
        have e : (Ln.cells ⟨l.p, d, g, c1, rest, kb'⟩) = (C.set 1 (.slice (some ⟨g, 0, none⟩) l.p.fr.length c1)).set 35 (.map kb') := by
          have e1 := cells_set (l := ⟨l.p, d, g, c1, rest, l.kb⟩) HL.out.2.2.2.1.down.1 kb' l.p.kills
          have e2 : Ln.cells ⟨l.p, d, g, c1, rest, l.kb⟩ = l.cells.set 1 (.slice (some ⟨g, 0, none⟩) l.p.fr.length c1) := rfl
          rw [← HC.out.1, ← e2, ← e1]
        rw [e]
        exact r1
      · show Blk W5 g 34 _
        exact b1.kept r2 (fun e => by have e := Option.some.inj e; omega)
      · unfold killHp at hx
        cases hkk : kb' with
        | none => rw [hkk] at hx; cases hx
        | some k' =>
          rw [hkk] at hx
          simp only [List.mem_cons, List.not_mem_nil, or_false] at hx
          subst hx
          have h9 := S4.out.2.2.2.2.1 k' hkk
          exact h9.2.same (r2.block k' h9.2.lt (fun e => by have e := Option.some.inj e; omega))
    · have hok := HL.out.2.2.2.1
      exact ⟨hok.v, hok.fr, hok.down, trivial, b2, by simpa using b3, b4, hok.len, fun e => hok.no (S4.out.2.2.2.2.2.1.1 e)⟩
    · refine S4.out.1.grown r2 S4.out.1.size (fun k hk => ?_)
      have e := Option.some.inj hk
      omega
  clear r1 r2 S4 S3
  go_wp2
  go_ret
  exact HF.out
end Go.Proofs.Ytjcihaohpbmogaa.Oct
