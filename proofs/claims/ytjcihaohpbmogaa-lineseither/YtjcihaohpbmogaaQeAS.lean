/-
  Layer 11 (lines): what is told of a graph that calls made, plain.
  Layer 11 (lines): do.
  Layer 11 (lines): built.
-/
import Derived.Test.YtjcihaohpbmogaaQeBP
import Derived.Test.YtjcihaohpbmogaaQeBO
import Derived.Test.YtjcihaohpbmogaaQeAR
/- Layer 11 (lines): what is told of a graph that calls made, plain. -/
namespace Go.Proofs.Ytjcihaohpbmogaa.Oct
open Go.RowKit
set_option maxRecDepth 100000
set_option linter.unusedSimpArgs false
set_option linter.unusedVariables false
set_option linter.unusedSectionVars false

theorem rise_nodup {ps : List PL} {vs : List Vx} (hn : (keysP ps).Nodup) (h : riseP ps vs) : vs.Nodup := h.1.nodup_iff.2 hn
theorem rise_mem {ps : List PL} {vs : List Vx} (h : riseP ps vs) (v : Vx) : v ∈ vs ↔ v ∈ keysP ps := h.1.mem_iff
theorem rise_len {ps : List PL} {vs : List Vx} (h : riseP ps vs) : vs.length = ps.length := by rw [h.1.length_eq]; unfold keysP; simp
theorem flnm {vs fr : List Vx} {k : Nat} : k ∈ fln vs fr ↔ ∃ u ∈ fr, u ∈ vs ∧ vs.idxOf u = k := by
  unfold fln
  rw [List.mem_filterMap]
  constructor
  · rintro ⟨u, hu, e⟩
    by_cases h : u ∈ vs
    · rw [if_pos h] at e
      exact ⟨u, hu, h, Option.some.inj e⟩
    · rw [if_neg h] at e
      cases e
  · rintro ⟨u, hu, h, e⟩
    exact ⟨u, hu, by rw [if_pos h, e]⟩
/-- steps by number -/
def stpP (ps : List PL) (vs : List Vx) (a : Nat) : List Nat := (List.range vs.length).filter fun b => decide (a ∈ flvP ps vs b)
theorem getD_in {vs : List Vx} {n : Nat} (h : n < vs.length) : vs.getD n vTop ∈ vs := getD_mem h vTop
theorem flv_lt {ps : List PL} {vs : List Vx} (ht : vTop ∉ keysP ps) {a b : Nat} (h : a ∈ flvP ps vs b) : b < vs.length ∧ a < vs.length := by
  unfold flvP at h
  obtain ⟨u, hu, hv, e⟩ := flnm.1 h
  refine ⟨?_, by rw [← e]; exact List.idxOf_lt_length_of_mem hv⟩
  by_cases hb : b < vs.length
  · exact hb
  · rw [List.getD_eq_getElem?_getD, List.getElem?_eq_none (by omega)] at hu
    obtain ⟨q, hq, e, _⟩ := frsP_mem hu
    exact absurd (List.mem_map.2 ⟨q, hq, e⟩) ht
theorem stp_mem {ps : List PL} {vs : List Vx} (ht : vTop ∉ keysP ps) (a b : Nat) : b ∈ stpP ps vs a ↔ a ∈ flvP ps vs b := by
  unfold stpP
  rw [List.mem_filter, List.mem_range, decide_eq_true_eq]
  exact ⟨fun h => h.2, fun h => ⟨(flv_lt ht h).1, h⟩⟩
theorem reach_num {ps : List PL} {vs : List Vx} (hn : (keysP ps).Nodup) (hr : riseP ps vs) {x y : Vx} (h : Gr.Reach (frsP ps) x y) : x ∈ vs → y ∈ vs → Gr.Reach (flvP ps vs) (vs.idxOf x) (vs.idxOf y) := by
  have key : ∀ b c, c ∈ frsP ps b → b ∈ vs → c ∈ vs → vs.idxOf c ∈ flvP ps vs (vs.idxOf b) := fun b c hc hb hcv => by
    unfold flvP
    have e : vs.getD (vs.idxOf b) vTop = b := by
      rw [List.getD_eq_getElem?_getD, Gr.get_idx hb]
      rfl
    rw [e]
    exact flnm.2 ⟨c, hc, hcv, rfl⟩
  induction h with
  | one h => exact fun hx hy => .one (key _ _ h hx hy)
  | more _ h ih =>
    intro hx hy
    obtain ⟨q, hq, e, _⟩ := frsP_mem h
    have hb := (rise_mem hr _).2 (List.mem_map.2 ⟨q, hq, e⟩)
    exact .more (ih hx hb) (key _ _ h hb hy)
/-- what is told of a graph -/
structure ShP (ps : List PL) (S : List Sx) : Prop where
  len : S.length = ps.length
  mem : ∀ s ∈ S, s.v ∈ keysP ps
  ord : ∀ i j : Nat, ∀ s t, j < i → S[i]? = some s → S[j]? = some t → t.v ≠ s.v ∧ ¬ ahdP ps s.v t.v
theorem Iv.shown {k : Nat} {ps : List PL} (h : Iv k ps) {vs : List Vx} (hr : riseP ps vs) : ShP ps (shownP ps vs) := by
  obtain ⟨F, hF⟩ := h.acy
  have hnd := rise_nodup h.nd hr
  have hT := Gr.ordr_told (step := stpP ps vs) (vs := List.range vs.length) (fl := flvP ps vs) (fun n hn u => by
      rw [stp_mem h.top, List.mem_range]
      exact ⟨fun e => ⟨(flv_lt h.top e).2, e⟩, fun e => e.2⟩)
    (fun a ha u hu => .inl (by
      have : ∀ a b, Gr.Reach (stpP ps vs) a b → b ∈ List.range vs.length := fun a b hab => by
        cases hab with
        | one e => exact (List.mem_filter.1 e).1
        | more _ e => exact (List.mem_filter.1 e).1
      exact this a u hu))
    (fun n => F (vs.getD n vTop)) (fun a b hb => by
      have hb := (stp_mem h.top a b).1 hb
      have hlt := flv_lt h.top hb
      unfold flvP at hb
      obtain ⟨u, hu, hv, e⟩ := flnm.1 hb
      obtain ⟨q, hq, eq, hx⟩ := frsP_mem hu
      have : vs.getD a vTop = u := by
        rw [← e, List.getD_eq_getElem?_getD, Gr.get_idx hv]
        rfl
      show F (vs.getD a vTop) < F (vs.getD b vTop)
      rw [this, ← eq]
      exact hF q hq u hx ((rise_mem hr u).1 hv)) List.nodup_range
  obtain ⟨hT, hl, hm⟩ := hT
  rw [List.length_range] at hl
  unfold shownP
  refine ⟨by rw [List.length_map, hl, rise_len hr], fun s hs => ?_, fun i j s t hij hi hj => ?_⟩
  · obtain ⟨n, hn, rfl⟩ := List.mem_map.1 hs
    exact (rise_mem hr _).1 (getD_in (List.mem_range.1 ((hm n).1 hn)))
  · rw [List.getElem?_map] at hi hj
    obtain ⟨a, ha, rfl⟩ := Option.map_eq_some_iff.1 hi
    obtain ⟨b, hb, rfl⟩ := Option.map_eq_some_iff.1 hj
    have hai := List.getElem?_eq_some_iff.1 ha
    have hbj := List.getElem?_eq_some_iff.1 hb
    have han := List.mem_range.1 ((hm a).1 (List.mem_of_getElem? ha))
    have hbn := List.mem_range.1 ((hm b).1 (List.mem_of_getElem? hb))
    have hne : b ≠ a := by
      have := List.pairwise_iff_getElem.1 hT.nd j i hbj.1 hai.1 hij
      rw [hbj.2, hai.2] at this
      exact this
    have hv : vs.getD b vTop ≠ vs.getD a vTop := fun e => hne (by
      have h1 := idx_getD hnd hbn vTop
      have h2 := idx_getD hnd han vTop
      rw [← h1, ← h2, e])
    refine ⟨hv, fun hA => ?_⟩
    have ho := List.pairwise_iff_getElem.1 hT.ord j i hbj.1 hai.1 hij
    rw [hbj.2, hai.2] at ho
    have hka : vs.getD a vTop ∈ keysP ps := (rise_mem hr _).1 (getD_in han)
    have hkb : vs.getD b vTop ∈ keysP ps := (rise_mem hr _).1 (getD_in hbn)
    rcases hA.2.2.2 with e | e | e
    · exact h.top (e ▸ hka)
    · exact h.bot (e ▸ hkb)
    · have h3 := reach_num h.nd hr e.2.2 (getD_in hbn) (getD_in han)
      have h1 := idx_getD hnd hbn vTop
      have h2 := idx_getD hnd han vTop
      have h4 : Gr.Reach (flvP ps vs) b a := by
        show Gr.Reach (flvP ps vs) b a
        rw [← h1, ← h2]
        exact h3
      exact ho ((Gr.Reach.back (step := stpP ps vs) (from_ := flvP ps vs) (stp_mem h.top)).2 h4)
theorem ahd_top {ps : List PL} {v : Vx} (ht : vTop ∉ keysP ps) (h : v ∈ keysP ps) : ahdP ps vTop v := ⟨by unfold hasP; rw [isE_top]; rfl, by unfold hasP; simp [h], fun e => ht (e ▸ h), .inl rfl⟩
theorem ahd_bot {ps : List PL} {v : Vx} (hb : vBot ∉ keysP ps) (h : v ∈ keysP ps) : ahdP ps v vBot := ⟨by unfold hasP; simp [h], by unfold hasP; rw [isE_bot]; rfl, fun e => hb (e ▸ h), .inr (.inl rfl)⟩
theorem ahd_self {ps : List PL} {v : Vx} : ¬ ahdP ps v v := fun h => h.2.2.1 rfl
theorem ahd_ends {ps : List PL} : ¬ ahdP ps vBot vTop := fun h => by
  rcases h.2.2.2 with e | e | e
  · exact h.2.2.1 e
  · exact h.2.2.1 e.symm
  · exact e.1 rfl
end Go.Proofs.Ytjcihaohpbmogaa.Oct

/- Layer 11 (lines): do. -/
namespace Go.Proofs.Ytjcihaohpbmogaa.Oct
open Go.RowKit
set_option maxRecDepth 100000
set_option linter.unusedSimpArgs false
set_option linter.unusedVariables false
set_option linter.unusedSectionVars false

theorem wpList_bz {ops : Array Oper} {rest : List Oper} {o : Oper} {a : Act} {w : World} {Q : Exit → Act → World → Prop} (hg : o.guard = none) (T : TypeId) (hop : o.op = .buildSlice T 0 #[]) (r : Value) (W' : World) (hr : (Instr.buildSlice T 0 #[]).run Try.prog w = .ok r W')
    (hK : wpList Try.prog ops Q rest (a.put o.dst r) W') : wpList Try.prog ops Q (o :: rest) a w := by
  refine wpList_plain hg fun K' hK' => ?_
  unfold Oper.wp execOp
  simp only [hop, List.map_toArray, List.map_nil, Sem.run_bind, Sem.run_pure, Result.andThen_ok, hr]
  exact hK' _ _ hK
def DoP (w : World) (p : Nat) (G : Gm) (a : AV) (e : Ending) (w' : World) : Prop := ∃ E G', e = .returned (iv E) ∧ GAfter w p G G' w' ∧ StepR G.ps a E G'.ps
theorem Iv.len {k : Nat} {G : Gm} (h : Iv k G.ps) (hk : k < 100000) : ∀ l ∈ G.ls, l.p.fr.length < 100000 := fun l hl => Nat.lt_of_le_of_lt (h.ln l.p (List.mem_map.2 ⟨l, hl, rfl⟩)) hk
theorem Iv.nef {k : Nat} {G : Gm} (h : Iv k G.ps) : ∀ l ∈ G.ls, l.p.fr ≠ [] := fun l hl => h.ne l.p (List.mem_map.2 ⟨l, hl, rfl⟩)
theorem ahb (ps : List PL) (a b : Vx) : ∃ AH : Bool, AH = true ↔ ahdP ps a b := by
  by_cases h : ahdP ps a b
  · exact ⟨true, ⟨fun _ => h, fun _ => rfl⟩⟩
  · exact ⟨false, ⟨fun e => (by cases e), fun e => absurd e h⟩⟩
/-- an addition, plain: what it answers and leaves -/
theorem add_st {w : World} {p k : Nat} {G : Gm} (h : GAt w p G) (hI : Iv k G.ps) (hk : k < 100000) (up dn : Vx) (hu : Vk up) (hd : Vk dn) (a : Option Addr) (n c : Nat) (ids : List Vx) (hr : VsR w a n ids) (hn : n ≤ 140737488355328) (ta : Option Addr) (tn tc : Nat) (ts : List BA) (ht : TsR w ta tn ts) (AH : Bool) (hAH : AH = true ↔ ahdP G.ps up dn) (E : Int) (hE : addEP G.ps AH up dn ids tn = E) (PS : List PL) (hPS : (if E = 0 then addP G.ps up dn ids ts else G.ps) = PS) (XA XB : List Value) (hXA : up.cells = XA) (hXB : dn.cells = XB) :
    Calls Try.prog 22 #[.pointer (some ⟨p, 0, none⟩), .agg XA.toArray, .agg XB.toArray, .slice a n c, .slice ta tn tc] w fun e w' => e = .returned (iv E) ∧ ∃ G', GAfter w p G G' w' ∧ G'.ps = PS := by
  refine (add_is h (tied_ps hI.tiedP) (hI.len hk) up dn hu hd a n c ids hr hn ta tn tc ts ht AH (by rw [ahd_ps]; exact hAH) E (by rw [addE_ps]; exact hE) XA XB hXA hXB).mono ?_
  rintro e w' ⟨rfl, G', hga, _, hps⟩
  exact ⟨rfl, G', hga, by rw [hps, hPS]⟩
set_option maxHeartbeats 4000000 in
theorem do_is {w : World} {p k : Nat} {G : Gm} (h : GAt w p G) (hI : Iv k G.ps) (hk : k < 100000) (a : AV) (ha : AR w a) (hn : a.inn ≤ 1000 ∧ a.tn ≤ 1000) : Calls Try.prog 14 #[.pointer (some ⟨p, 0, none⟩), .agg a.cells.toArray] w fun e w' => DoP w p G a e w' := by
  have hlen := AV.len ha.1.1 ha.2.1.1 ha.2.2.2.2.1
  obtain ⟨d, hd⟩ : ∃ d, w.heap.size = d := ⟨_, rfl⟩
  obtain ⟨W1, hW1⟩ : ∃ W, w.alloc (.cells a.cells.toArray 38) = W := ⟨_, rfl⟩
  have hb1 : Below w.heap.size w W1 := by rw [← hW1]; exact below_al _ _
  have hk1 : Blk W1 d 38 a.cells := by rw [← hW1, ← hd]; simpa using Blk.new w a.cells.toArray 38
  obtain ⟨CU, hCU⟩ : ∃ C, a.up.cells = C := ⟨_, rfl⟩
  obtain ⟨CD, hCD⟩ : ∃ C, a.dn.cells = C := ⟨_, rfl⟩
  obtain ⟨CY, hCY⟩ : ∃ C, U a.by_ = C := ⟨_, rfl⟩
  have HCU : Hid (a.up.cells = CU) := hCU
  have HCD : Hid (a.dn.cells = CD) := hCD
  have HCY : Hid (U a.by_ = CY) := hCY
  have HI : Hid ((Try.prog.info? 34).map (·.size) = some CU.length ∧ (Try.prog.info? 34).map (·.size) = some CD.length ∧ (Try.prog.info? 32).map (·.size) = some CY.length) := ⟨by rw [← hCU]; exact info34 ha.1.1, by rw [← hCD]; exact info34 ha.2.1.1, by rw [← hCY]; exact info32 _ ha.2.2.2.2.1⟩
  have hrg := AV.ranges hk1 ha.1.1 ha.2.1.1
  rw [hCU, hCD, hCY] at hrg
  have HR : Hid (W1.rangeAt d 1 CU ∧ W1.rangeAt d 34 CD ∧ W1.rangeAt d 69 CY) := ⟨hrg.2.1, hrg.2.2.1, hrg.2.2.2.2.2⟩
  have HG1 : Hid (GAt W1 p G ∧ Below w.heap.size w W1 ∧ Blk W1 d 38 a.cells ∧ w.heap.size = d) := ⟨h.below hb1, hb1, hk1, hd⟩
  have HND : Hid (¬ d ∈ G.bl p) := fun hm => by have := h.lt d hm; omega
  have HA : Hid (Vk a.up ∧ Vk a.dn ∧ a.by_.length = 32 ∧ VsR W1 a.ia a.inn a.ids ∧ TsR W1 a.ta a.tn a.ts ∧ a.inn ≤ 1000 ∧ a.tn ≤ 1000) := ⟨ha.1, ha.2.1, ha.2.2.2.2.1, ha.2.2.1.below hb1, ha.2.2.2.1.below hb1, hn⟩
  have HIV : Hid (Iv k G.ps ∧ k < 100000) := ⟨hI, hk⟩
  have c0 : W1.cell? ⟨d, 0, none⟩ = some (iv a.k) := hrg.1
  have c67 : W1.cell? ⟨d, 67, none⟩ = some (.slice a.ia a.inn a.ic) := hrg.2.2.2.1
  have c68 : W1.cell? ⟨d, 68, none⟩ = some (.slice a.ta a.tn a.tc) := hrg.2.2.2.2.1
  have h1 := AV.one a
  have h2 := Try.underlying38
  have h3 := info38 hlen
  have hbx : (Instr.box 38 (.agg a.cells.toArray)).run Try.prog w = .ok (.pointer (some ⟨d, 0, none⟩)) W1 := by
    obtain ⟨i0, hi0, hs0⟩ := Option.map_eq_some_iff.1 h3
    rw [← hd, ← hW1]
    exact run_box 38 (.agg a.cells.toArray) i0 hi0 (by rw [hs0]; simp [Value.cells]) w
  obtain ⟨C, hC⟩ : ∃ C, a.cells = C := ⟨_, rfl⟩
  rw [hC] at h1 h3 hlen hbx
  rw [hC]
  have HBX := hid_of hbx
  obtain ⟨kk, hkk⟩ : ∃ kk, a.k = kk := ⟨_, rfl⟩
  have HKK := hid_of hkk
  rw [hkk] at c0
  clear h hI hk ha hn hCU hCD hCY hrg hb1 hk1 hC hd hW1 hbx hkk h1 h2 h3 hlen
  go_enter Try.func14, Try.ntmps14
  go_wp2_with (first
    | (with_reducible change wpList _ _ _ ({ dst := some 3, op := _, type := _, pos := _, after := _, guard := _ } :: _) _ _
       refine wpList_boxW (by rfl) 38 (.tmp 1) rfl (.agg C.toArray) (.pointer (some ⟨d, 0, none⟩)) rfl W1 HBX.out ?_)
    | (with_reducible change wpList _ _ _ ({ dst := some 8, op := _, type := _, pos := _, after := _, guard := _ } :: _) _ _
       refine Hid.out ?_)
    | fail)
  show wpList _ _ _ _ _ _
  clear HBX
  by_cases e0 : kk = 0
  · subst e0
    obtain ⟨AH, hAH⟩ := ahb G.ps a.up a.dn
    obtain ⟨E, hE⟩ : ∃ E, addEP G.ps AH a.up a.dn a.ids a.tn = E := ⟨_, rfl⟩
    obtain ⟨PS, hPS⟩ : ∃ PS, (if E = 0 then addP G.ps a.up a.dn a.ids a.ts else G.ps) = PS := ⟨_, rfl⟩
    have HE : Hid ((AH = true ↔ ahdP G.ps a.up a.dn) ∧ addEP G.ps AH a.up a.dn a.ids a.tn = E ∧ (if E = 0 then addP G.ps a.up a.dn a.ids a.ts else G.ps) = PS) := ⟨hAH, hE, hPS⟩
    clear hAH hE hPS
    go_wp2_with fail
    have HADD : Hid (∀ V a1 c1 a2 c2, Below W1.heap.size W1 V → VsR V a1 a.inn a.ids → TsR V a2 a.tn a.ts → Calls Try.prog 22 #[.pointer (some ⟨p, 0, none⟩), .agg CU.toArray, .agg CD.toArray, .slice a1 a.inn c1, .slice a2 a.tn c2] V fun e w' => e = .returned (iv E) ∧ ∃ G', GAfter V p G G' w' ∧ G'.ps = PS) := fun V a1 c1 a2 c2 hb hv ht =>
      add_st (HG1.out.1.below hb) HIV.out.1 HIV.out.2 a.up a.dn HA.out.1 HA.out.2.1 a1 a.inn c1 a.ids hv (by have := HA.out.2.2.2.2.2.1; omega) a2 a.tn c2 a.ts ht AH HE.out.1 E HE.out.2.1 PS HE.out.2.2 CU CD HCU.out HCD.out
    refine do3 ⟨HG1.out.2.2.1.lt, HND.out⟩ ⟨HR.out.1, HI.out.1⟩ ⟨HR.out.2.1, HI.out.2.1⟩ c67 c68 ⟨HA.out.2.2.2.1, by have := HA.out.2.2.2.2.2.1; omega⟩ ⟨HA.out.2.2.2.2.1, by have := HA.out.2.2.2.2.2.2; omega⟩ HADD ?_
    intro V3 r1 r2 a1 c1 a2 c2 G' hkp hx
    have HF : Hid (DoP w p G a (.returned (iv E)) V3) := by
      refine ⟨E, G', rfl, GAfter.first HG1.out.2.1 ⟨hx.1, hx.2.2, hkp⟩, .inl ⟨HKK.out, AH, HE.out.1, HE.out.2.1.symm, by rw [hx.2.1, HE.out.2.2]⟩⟩
    clear hkp hx HADD
    go_wp2
    go_ret
    exact HF.out
  have q0 : (kk == 0) = false := by simpa using e0
  by_cases e1 : kk = 1
  · subst e1
    obtain ⟨E, hE⟩ : ∃ E, dropE G.ps a.ids = E := ⟨_, rfl⟩
    obtain ⟨PS, hPS⟩ : ∃ PS, (if E = 0 then dropP G.ps a.ids else G.ps) = PS := ⟨_, rfl⟩
    have HE : Hid (dropE G.ps a.ids = E ∧ (if E = 0 then dropP G.ps a.ids else G.ps) = PS) := ⟨hE, hPS⟩
    clear hE hPS q0 e0
    go_wp2_with (first
      | (with_reducible change wpList _ _ _ ({ dst := some 26, op := _, type := _, pos := _, after := _, guard := _ } :: _) _ _
         refine Hid.out ?_)
      | fail)
    show wpList _ _ _ _ _ _
    refine wpList_bz rfl 35 rfl _ _ (bs35z _) ?_
    obtain ⟨W2, hW2⟩ : ∃ W, W1.alloc (.cells #[] 34) = W := ⟨_, rfl⟩
    obtain ⟨r1, hr1⟩ : ∃ r, W1.heap.size = r := ⟨_, rfl⟩
    have hb2 : Below W1.heap.size W1 W2 := by rw [← hW2]; exact below_al _ _
    have HZ : Hid (Blk W2 r1 34 [] ∧ W1.heap.size ≤ r1 ∧ Below W1.heap.size W1 W2) := ⟨by rw [← hW2, ← hr1]; exact Blk.new W1 _ _, Nat.le_of_eq hr1, hb2⟩
    have c67 : W2.cell? ⟨d, 67, none⟩ = some (.slice a.ia a.inn a.ic) := (cell_same (hb2.block d HG1.out.2.2.1.lt)).trans c67
    rw [hW2, hr1]
    clear hW2 hr1 hb2 c0 c68
    go_wp2_with (first
      | (with_reducible change wpList _ _ _ ({ dst := some 29, op := _, type := _, pos := _, after := _, guard := _ } :: _) _ _
         refine Hid.out ?_)
      | fail)
    show wpList _ _ _ _ _ _
    obtain ⟨a1, c1, W3, hr, hv, ha1, hg⟩ := cp_ids W2 35 r1 a.inn a.ic a.ia a.ids HZ.out.1 (HA.out.2.2.2.1.below HZ.out.2.2) (by have := HA.out.2.2.2.2.2.1; omega)
    refine wpList_ap rfl 35 35 _ _ rfl _ _ rfl rfl _ _ hr ?_
    have hb3 : Below W1.heap.size W1 W3 := HZ.out.2.2.grown hg HZ.out.2.2.size (fun k hk => by have e := Option.some.inj hk; have := HZ.out.2.1; omega)
    have S3 : Hid (Below w.heap.size w W3 ∧ GAt W3 p G ∧ VsR W3 a1 a.inn a.ids ∧ ∀ g off, a1 = some ⟨g, off, none⟩ → g ∉ G.bl p) := by
      refine ⟨below_tr HG1.out.2.1 hb3, HG1.out.1.below hb3, hv, fun g off e hm => ?_⟩
      have h5 := ha1 g off e
      have h6 := HG1.out.1.lt g hm
      have h7 := HZ.out.2.1
      omega
    clear hr hv ha1 hg hb3 HZ c67
    go_wp2_with fail
    refine (drop_is S3.out.2.1 HIV.out.1.nef a1 a.inn c1 a.ids S3.out.2.2.1 (by have := HA.out.2.2.2.2.2.1; omega) S3.out.2.2.2 E HE.out.1 PS HE.out.2).mono ?_
    rintro e W4 ⟨rfl, G', hga, _, hps⟩
    have HF : Hid (DoP w p G a (.returned (iv E)) W4) := ⟨E, G', rfl, GAfter.first S3.out.1 hga, .inr (.inl ⟨HKK.out, HE.out.1.symm, by rw [hps, HE.out.2]⟩)⟩
    clear hga hps
    go_wp2
    go_ret
    exact HF.out
  have q1 : (kk == 1) = false := by simpa using e1
  by_cases e2 : kk = 2
  · subst e2
    obtain ⟨E, hE⟩ : ∃ E, killE G.ps a.up a.by_ = E := ⟨_, rfl⟩
    obtain ⟨PS, hPS⟩ : ∃ PS, (if E = 0 then turnP ((· ++ [a.by_])) G.ps a.up else G.ps) = PS := ⟨_, rfl⟩
    have HE : Hid (killE G.ps a.up a.by_ = E ∧ (if E = 0 then turnP ((· ++ [a.by_])) G.ps a.up else G.ps) = PS) := ⟨hE, hPS⟩
    clear hE hPS q0 e0 q1 e1
    go_wp2_with (first
      | (with_reducible change wpList _ _ _ ({ dst := some 35, op := _, type := _, pos := _, after := _, guard := _ } :: _) _ _
         refine wpList_load_want rfl 34 (.tmp 34) rfl d 1 rfl CU _ HR.out.1 Try.underlying34 rfl HI.out.1 ?_)
      | (with_reducible change wpList _ _ _ ({ dst := some 37, op := _, type := _, pos := _, after := _, guard := _ } :: _) _ _
         refine wpList_load_want rfl 32 (.tmp 36) rfl d 69 rfl CY _ HR.out.2.2 Try.underlying32 rfl HI.out.2.2 ?_)
      | fail)
    refine (kill_is HG1.out.1 a.up HA.out.1 a.by_ (show MK.ok a.by_ from HA.out.2.2.1) CU HCU.out CY HCY.out E HE.out.1 PS HE.out.2).mono ?_
    rintro e W4 ⟨rfl, G', hga, hps⟩
    have HF : Hid (DoP w p G a (.returned (iv E)) W4) := ⟨E, G', rfl, GAfter.first HG1.out.2.1 hga, .inr (.inr (.inl ⟨HKK.out, HE.out.1.symm, by rw [hps, HE.out.2]⟩))⟩
    clear hga hps
    go_wp2
    go_ret
    exact HF.out
  have q2 : (kk == 2) = false := by simpa using e2
  have HKN : Hid (a.k ≠ 0 ∧ a.k ≠ 1 ∧ a.k ≠ 2) := ⟨by rw [HKK.out]; exact e0, by rw [HKK.out]; exact e1, by rw [HKK.out]; exact e2⟩
  obtain ⟨E, hE⟩ : ∃ E, unkillE G.ps a.up a.by_ = E := ⟨_, rfl⟩
  obtain ⟨PS, hPS⟩ : ∃ PS, (if E = 0 then turnP (fun l => l.filter (fun x => decide (x ≠ a.by_))) G.ps a.up else G.ps) = PS := ⟨_, rfl⟩
  have HE : Hid (unkillE G.ps a.up a.by_ = E ∧ (if E = 0 then turnP (fun l => l.filter (fun x => decide (x ≠ a.by_))) G.ps a.up else G.ps) = PS) := ⟨hE, hPS⟩
  clear hE hPS e0 e1 e2
  go_wp2_with (first
    | (with_reducible change wpList _ _ _ ({ dst := some 41, op := _, type := _, pos := _, after := _, guard := _ } :: _) _ _
       refine wpList_load_want rfl 34 (.tmp 40) rfl d 1 rfl CU _ HR.out.1 Try.underlying34 rfl HI.out.1 ?_)
    | (with_reducible change wpList _ _ _ ({ dst := some 43, op := _, type := _, pos := _, after := _, guard := _ } :: _) _ _
       refine wpList_load_want rfl 32 (.tmp 42) rfl d 69 rfl CY _ HR.out.2.2 Try.underlying32 rfl HI.out.2.2 ?_)
    | fail)
  refine (unkill_is HG1.out.1 a.up HA.out.1 a.by_ (show MK.ok a.by_ from HA.out.2.2.1) CU HCU.out CY HCY.out E HE.out.1 PS HE.out.2).mono ?_
  rintro e W4 ⟨rfl, G', hga, hps⟩
  have HF : Hid (DoP w p G a (.returned (iv E)) W4) := ⟨E, G', rfl, GAfter.first HG1.out.2.1 hga, .inr (.inr (.inr ⟨HKN.out.1, HKN.out.2.1, HKN.out.2.2, HE.out.1.symm, by rw [hps, HE.out.2]⟩))⟩
  clear hga hps
  go_wp2
  go_ret
  exact HF.out
end Go.Proofs.Ytjcihaohpbmogaa.Oct

/- Layer 11 (lines): built. -/
namespace Go.Proofs.Ytjcihaohpbmogaa.Oct
open Go.RowKit
set_option maxRecDepth 100000
set_option linter.unusedSimpArgs false
set_option linter.unusedVariables false
set_option linter.unusedSectionVars false

/-- a graph that calls made, in memory of its own -/
def BuiltP (w : World) (n : Nat) (e : Ending) (w' : World) : Prop := ∃ p G, e = .returned (.pointer (some ⟨p, 0, none⟩)) ∧ GAt w' p G ∧ (∀ b ∈ G.bl p, w.heap.size ≤ b) ∧ Iv (n + 1) G.ps ∧ Below w.heap.size w w'
/-- where the loop stands -/
def BL (w : World) (p i : Nat) (wr : World) : Prop := ∃ G, GAt wr p G ∧ (∀ b ∈ G.bl p, w.heap.size ≤ b) ∧ Iv (i + 1) G.ps ∧ Below w.heap.size w wr
theorem BL.below {w wr wr' : World} {p i : Nat} (h : BL w p i wr) (hb : Below wr.heap.size wr wr') : BL w p i wr' := by
  obtain ⟨G, h1, h2, h3, h4⟩ := h
  exact ⟨G, h1.below hb, h2, h3, below_tr h4 hb⟩
theorem BL.next {w wr : World} {p i : Nat} (h : BL w p i wr) : BL w p (i + 1) wr := by
  obtain ⟨G, h1, h2, h3, h4⟩ := h
  exact ⟨G, h1, h2, h3.more (by omega), h4⟩
set_option maxHeartbeats 4000000 in
theorem built_is (w : World) (a : Option Addr) (n c : Nat) (acts : List AV) (hr : ActsR w a n acts) (hn : n ≤ 1000) (hs : ∀ x ∈ acts, x.inn ≤ 1000 ∧ x.tn ≤ 1000) : Calls Try.prog 16 #[.slice a n c] w fun e w' => BuiltP w n e w' := by
  have HS : Hid (ActsR w a n acts ∧ n ≤ 1000 ∧ ∀ x ∈ acts, x.inn ≤ 1000 ∧ x.tn ≤ 1000) := ⟨hr, hn, hs⟩
  have q0 : (n : Int) ≤ 1000 := by omega
  obtain ⟨Z, hZ, HZ⟩ := zval38
  clear hr hn hs
  go_enter Try.func16, Try.ntmps16
  go_wp2_with fail
  refine (new_is w).mono ?_
  rintro e W1 ⟨p, G0, rfl, HG, HB1⟩
  have HB : Hid (BL w p 0 W1) := ⟨G0, HG.out.1, HG.out.2.2, by rw [HG.out.2.1]; exact Iv.none, HB1.out⟩
  clear HG HB1
  go_wp2
  go_loopw [9] (fun u wr => ∃ i : Nat, u = iv (i : Int) ∧ Hid (i ≤ n ∧ BL w p i wr)) (fun u _ => n - (intOf u).toNat)
  case atStart => exact ⟨0, rfl, Nat.zero_le _, HB.out⟩
  case round =>
    obtain ⟨V, hV⟩ : ∃ V, V = wr := ⟨_, rfl⟩
    subst hV
    obtain ⟨i, rfl, HI⟩ := hrel
    clear HB
    by_cases hi : i < n
    · obtain ⟨x, hx⟩ : ∃ x, acts[i]? = some x := ⟨_, List.getElem?_eq_getElem (by rw [HS.out.1.1]; exact hi)⟩
      have har := HS.out.1.2.1 x (List.mem_of_getElem? hx)
      have hlen := AV.len har.1.1 har.2.1.1 har.2.2.2.2.1
      have HX : Hid (i < n ∧ acts[i]? = some x ∧ x.up.ok ∧ x.dn.ok ∧ x.cells.length = 101 ∧ (x.inn ≤ 1000 ∧ x.tn ≤ 1000)) := ⟨hi, hx, har.1.1, har.2.1.1, hlen, HS.out.2.2 x (List.mem_of_getElem? hx)⟩
      obtain ⟨G, hG1, hG2, hG3, hG4⟩ := HI.out.2
      have HG : Hid (GAt V p G ∧ (∀ b ∈ G.bl p, w.heap.size ≤ b) ∧ Iv (i + 1) G.ps ∧ Below w.heap.size w V) := ⟨hG1, hG2, hG3, hG4⟩
      obtain ⟨gb, off, rfl, hg, hel⟩ := HS.out.1.2.2 (by omega)
      have HR : Hid (V.rangeAt gb (off + i * 101) x.cells) := rangeAt_same (hel i x hx) (hG4.block gb hg)
      have q1 : (i : Int) < (n : Int) := by omega
      clear har hlen hel hx hi hg hG1 hG2 hG3 hG4 HI
      go_wp2_with (first
        | (with_reducible change wpList _ _ _ ({ dst := some 12, op := _, type := _, pos := _, after := _, guard := _ } :: _) _ _
           refine wpList_load_want rfl 38 (.tmp 11) rfl gb (off + i * 101) rfl x.cells _ HR.out Try.underlying38 rfl (info38 HX.out.2.2.2.2.1) ?_)
        | (with_reducible change wpList _ _ _ ({ dst := none, op := Op.store 38 _ _, type := _, pos := _, after := _, guard := _ } :: _) _ _
           refine Hid.out ?_)
        | fail)
      show wpList _ _ _ _ _ _
      refine wpList_store_fresh rfl 38 (.tmp 5) (.tmp 12) rfl Z x.cells 38 rfl rfl (by rw [HX.out.2.2.2.2.1, HZ.out]) (info38 HX.out.2.2.2.2.1) (AV.one x) ?_
      obtain ⟨U1, hU1⟩ : ∃ W, V.alloc (.cells x.cells.toArray 38) = W := ⟨_, rfl⟩
      obtain ⟨d5, hd5⟩ : ∃ g, V.heap.size = g := ⟨_, rfl⟩
      have S1 : Hid (GAt U1 p G ∧ (∀ b ∈ G.bl p, w.heap.size ≤ b) ∧ Iv (i + 1) G.ps ∧ Below w.heap.size w U1 ∧ Blk U1 d5 38 x.cells ∧ AR U1 x) := by
        have hbl : Below V.heap.size V U1 := by rw [← hU1]; exact below_al _ _
        have h4 := below_tr HG.out.2.2.2 hbl
        exact ⟨HG.out.1.below hbl, HG.out.2.1, HG.out.2.2.1, h4, by rw [← hU1, ← hd5]; exact Blk.new V _ _, (HS.out.1.2.1 x (List.mem_of_getElem? HX.out.2.1)).below h4⟩
      rw [hU1, hd5]
      clear hU1 hd5 HR HG
      have hrg := AV.ranges S1.out.2.2.2.2.1 HX.out.2.2.1 HX.out.2.2.2.1
      obtain ⟨kk, hkk⟩ : ∃ kk, x.k = kk := ⟨_, rfl⟩
      have c0 : U1.cell? ⟨d5, 0, none⟩ = some (iv kk) := by rw [← hkk]; exact hrg.1
      clear hrg hkk
      by_cases hc : kk = 4
      · subst hc
        have HN : Hid (i + 1 ≤ n ∧ BL w p (i + 1) U1) := ⟨HX.out.1, BL.next ⟨G, S1.out.1, S1.out.2.1, S1.out.2.2.1, S1.out.2.2.2.1⟩⟩
        have HM : Hid (i < n) := HX.out.1
        clear S1
        go_wp2
        refine ⟨⟨i + 1, by simp, HN.out⟩, ?_⟩
        have := HM.out; simp [intOf]; omega
      · have q2 : (kk == 4) = false := by simpa using hc
        have q3 : (kk != 4) = true := by simpa using hc
        clear hc
        go_wp2_with (first
          | (with_reducible change wpList _ _ _ ({ dst := some 17, op := _, type := _, pos := _, after := _, guard := _ } :: _) _ _
             refine wpList_load_want rfl 38 (.tmp 5) rfl d5 0 rfl x.cells _ S1.out.2.2.2.2.1.range0 Try.underlying38 rfl (info38 HX.out.2.2.2.2.1) ?_)
          | fail)
        refine (do_is S1.out.1 S1.out.2.2.1 (by have := HS.out.2.1; have := HX.out.1; omega) x S1.out.2.2.2.2.2 HX.out.2.2.2.2.2).mono ?_
        rintro e U2 ⟨E, G', rfl, hga, hst⟩
        have HN : Hid (i + 1 ≤ n ∧ BL w p (i + 1) U2) := by
          refine ⟨HX.out.1, G', hga.1, fun b hb => ?_, S1.out.2.2.1.step (by omega) hst, S1.out.2.2.2.1.trans (hga.2.2.toBelow S1.out.2.2.2.1.size S1.out.2.1)⟩
          rcases hga.2.1 b hb with h | h
          · exact S1.out.2.1 b h
          · exact Nat.le_trans S1.out.2.2.2.1.size h
        have HM : Hid (i < n) := HX.out.1
        clear hga hst S1 c0 q2 q3
        go_wp2
        refine ⟨⟨i + 1, by simp, HN.out⟩, ?_⟩
        have := HM.out; simp [intOf]; omega
    · have q1 : ¬ (i : Int) < (n : Int) := by omega
      obtain rfl : i = n := by have := HI.out.1; omega
      have HF : Hid (BuiltP w i (.returned (.pointer (some ⟨p, 0, none⟩))) V) := by
        obtain ⟨G, h1, h2, h3, h4⟩ := HI.out.2
        exact ⟨p, G, rfl, h1, h2, h3, h4⟩
      clear HI hi
      go_wp2
      go_ret
      exact HF.out
end Go.Proofs.Ytjcihaohpbmogaa.Oct
