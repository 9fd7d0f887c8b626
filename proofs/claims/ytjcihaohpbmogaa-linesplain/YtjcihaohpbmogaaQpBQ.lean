/-
  Layer 11 (lines): undone: the law.
-/
import Derived.Test.YtjcihaohpbmogaaQpBP
import Derived.Test.YtjcihaohpbmogaaQpAO
/- Layer 11 (lines): undone: the law. -/
namespace Go.Proofs.Ytjcihaohpbmogaa.Oct
open Go.RowKit
set_option maxRecDepth 100000
set_option linter.unusedSimpArgs false
set_option linter.unusedVariables false
set_option linter.unusedSectionVars false

theorem run_bslice38 {L : List Value} (hl : L.length = 101) (W : World) : (Instr.buildSlice 22 1 #[(0, .agg L.toArray)]).run Try.prog W = .ok (.slice (some ⟨W.heap.size, 0, none⟩) 1 1) (W.alloc (.cells L.toArray 38)) := by
  obtain ⟨i, hi, hs1, hby, z, hz, hzs⟩ : ∃ i : TypeInfo, Try.prog.info? 38 = some i ∧ i.size = 101 ∧ i.bytes ≤ 1000 ∧ ∃ z, i.zero = some z ∧ z.cells.size = 101 := by
    have h : (Try.prog.info? 38).map (fun i => (i.size, decide (i.bytes ≤ 1000), i.zero.map (·.cells.size))) = some (101, true, some 101) := by kernel_rfl
    obtain ⟨i, hi, he⟩ := Option.map_eq_some_iff.1 h
    injection he with h1 h2
    injection h2 with h2 h3
    obtain ⟨z, hz, hs⟩ := Option.map_eq_some_iff.1 h3
    exact ⟨i, hi, h1, by simpa using h2, z, hz, hs⟩
  have e : ∀ A : Array Value, A.size = 101 → List.foldl (fun cs (x : Value × Nat) => cs.setIfInBounds x.2 x.1) A L.zipIdx = L.toArray := by
    intro A hA
    apply Array.toList_inj.1
    rw [fold_set L 0 A (by rw [hl, hA])]
    simp
  simp [Instr.buildSlice, run_underlying Try.underlying22, sizeOf, typeInfo, hi, hs1, zeroValue, hz, Instr.fill, Value.cells, hl, e]
  simp [newRow]
  try omega
theorem ActsR.one {w : World} {a : AV} (h : AR w a) : ActsR (w.alloc (.cells a.cells.toArray 38)) (some ⟨w.heap.size, 0, none⟩) 1 [a] := by
  refine ⟨rfl, by simpa using h.below (below_al _ _), fun _ => ⟨_, _, rfl, by simp, fun i x hi => ?_⟩⟩
  cases i with
  | zero =>
    simp at hi; subst hi
    simpa using (Blk.new w a.cells.toArray 38).range0
  | succ i => simp at hi
/-- what is told of a graph, plain -/
theorem shown_st {w : World} {p k : Nat} {G : Gm} (h : GAt w p G) (hI : Iv k G.ps) {vs : List Vx} (hr : riseP G.ps vs) : Calls Try.prog 17 #[.pointer (some ⟨p, 0, none⟩)] w fun e w' => ∃ a n c, e = .returned (.slice a n c) ∧ Hid (SsR w' a n (shownP G.ps vs)) ∧ Hid (Below w.heap.size w w') := by
  obtain ⟨F, hF⟩ := hI.acy
  refine (shown_is h F (acy_ps hF)).mono ?_
  rintro e w' ⟨a, n, c, vs', rfl, h1, h2⟩
  refine ⟨a, n, c, rfl, ?_, h2⟩
  have h3 := h1.out.2
  rw [shown_ps, riseP_one ((rise_ps G vs').1 h1.out.1) hr] at h3
  exact h3
theorem shown_ex {w : World} {p k : Nat} {G : Gm} (h : GAt w p G) (hI : Iv k G.ps) : Calls Try.prog 17 #[.pointer (some ⟨p, 0, none⟩)] w fun e w' => ∃ a n c vs, e = .returned (.slice a n c) ∧ Hid (riseP G.ps vs ∧ SsR w' a n (shownP G.ps vs) ∧ ∀ g off, a = some ⟨g, off, none⟩ → w.heap.size ≤ g) ∧ Hid (Below w.heap.size w w') := by
  obtain ⟨F, hF⟩ := hI.acy
  refine (shown_isT h F (acy_ps hF)).mono ?_
  rintro e w' ⟨a, n, c, vs', rfl, h1, h2⟩
  exact ⟨a, n, c, vs', rfl, ⟨(rise_ps G vs').1 h1.out.1, by rw [← shown_ps]; exact h1.out.2.1, h1.out.2.2⟩, h2⟩
theorem conf_st {w : World} {p k : Nat} {G : Gm} (h : GAt w p G) (hI : Iv k G.ps) {vs : List Vx} (hr : riseP G.ps vs) (C : Int) (hC : confP G.ps vs = C) : Calls Try.prog 25 #[.pointer (some ⟨p, 0, none⟩)] w fun e w' => e = .returned (iv C) ∧ Below w.heap.size w w' := by
  obtain ⟨F, hF⟩ := hI.acy
  refine (conflicts_is h F (acy_ps hF)).mono ?_
  rintro e w' ⟨vs', rfl, h1, h2⟩
  refine ⟨?_, h2.out⟩
  rw [conf_ps, riseP_one ((rise_ps G vs').1 h1.out) hr, hC]
theorem SsR.keepT {S : Nat → Prop} {w w' : World} {a : Option Addr} {n : Nat} {vs : List Sx} (h : SsR w a n vs) (hk : Keep S w w') (hs : 0 < n → ∀ g off, a = some ⟨g, off, none⟩ → ¬ S g) : SsR w' a n vs := by
  by_cases hn : 0 < n
  · exact h.keep hk (hs hn)
  · obtain rfl : n = 0 := by omega
    have : vs = [] := List.length_eq_zero_iff.1 h.1
    subst this
    exact SsR.nil _ _
theorem cnts_mem {l : List AV} {x : AV} (h : x ∈ l) : cnt x ≤ cnts l := by
  obtain ⟨i, hi⟩ := List.getElem?_of_mem h
  have h1 := cnts_take hi
  have h2 := cnts_le l (i + 1)
  omega
theorem cnts_len : ∀ l : List AV, l.length ≤ cnts l
  | [] => Nat.zero_le _
  | x :: l => by
    have := cnts_len l
    have e : cnts (x :: l) = cnt x + cnts l := by unfold cnts; simp
    have : 1 ≤ cnt x := by unfold cnt; omega
    rw [e, List.length_cons]
    omega
/-- a graph that stands in a law: its block, its lines, all in memory of the law's own -/
def At7 (w : World) (p k : Nat) (ps : List PL) (wr : World) (G : Gm) : Prop := GAt wr p G ∧ (∀ b ∈ G.bl p, w.heap.size ≤ b) ∧ G.ps = ps ∧ Below w.heap.size w wr
theorem At7.below {w wr wr' : World} {p k : Nat} {ps : List PL} {G : Gm} (h : At7 w p k ps wr G) (hb : Below wr.heap.size wr wr') : At7 w p k ps wr' G := ⟨h.1.below hb, h.2.1, h.2.2.1, below_tr h.2.2.2 hb⟩
theorem At7.after {w wr wr' : World} {p k : Nat} {ps ps' : List PL} {G G' : Gm} (h : At7 w p k ps wr G) (hg : GAfter wr p G G' wr') (hp : G'.ps = ps') : At7 w p k ps' wr' G' := ⟨hg.1, fun b hb => (hg.2.1 b hb).elim (h.2.1 b) (fun e => Nat.le_trans h.2.2.2.size e), hp, h.2.2.2.trans (hg.2.2.toBelow h.2.2.2.size h.2.1)⟩
theorem At7.keep {w wr wr' : World} {p k : Nat} {ps ps' : List PL} {G G' : Gm} (h : At7 w p k ps wr G) (hk : Keep (fun k => k ∈ G.bl p) wr wr') (hg : GAt wr' p G') (hb : ∀ k ∈ G'.bl p, k ∈ G.bl p ∨ wr.heap.size ≤ k) (hp : G'.ps = ps') : At7 w p k ps' wr' G' := h.after ⟨hg, hb, hk⟩ hp
set_option maxHeartbeats 8000000 in
theorem undo_law (w : World) (a0 : Option Addr) (n0 c0 : Nat) (acts : List AV) (hr : ActsR w a0 n0 acts) (hn0 : n0 ≤ 140737488355328) (y : AV) (ha : AR w y) : Calls Try.prog 7 #[.slice a0 n0 c0, .agg y.cells.toArray] w fun e w' => e = .returned (.bool true) ∧ Below w.heap.size w w' := by
  have hlen := AV.len ha.1.1 ha.2.1.1 ha.2.2.2.2.1
  obtain ⟨d, hd⟩ : ∃ d, w.heap.size = d := ⟨_, rfl⟩
  obtain ⟨W1, hW1⟩ : ∃ W, w.alloc (.cells y.cells.toArray 38) = W := ⟨_, rfl⟩
  have hb1 : Below w.heap.size w W1 := by rw [← hW1]; exact below_al _ _
  have hk1 : Blk W1 d 38 y.cells := by rw [← hW1, ← hd]; simpa using Blk.new w y.cells.toArray 38
  have H1 : Hid (Below w.heap.size w W1 ∧ Blk W1 d 38 y.cells ∧ w.heap.size ≤ d) := ⟨hb1, hk1, Nat.le_of_eq hd⟩
  have HA : Hid (ActsR w a0 n0 acts ∧ n0 ≤ 140737488355328 ∧ AR w y ∧ y.cells.length = 101) := ⟨hr, hn0, ha, hlen⟩
  have hbx : (Instr.box 38 (.agg y.cells.toArray)).run Try.prog w = .ok (.pointer (some ⟨d, 0, none⟩)) W1 := by
    obtain ⟨i0, hi0, hs0⟩ := Option.map_eq_some_iff.1 (info38 hlen)
    rw [← hd, ← hW1]
    exact run_box 38 (.agg y.cells.toArray) i0 hi0 (by rw [hs0]; simp [Value.cells]) w
  have HBX := hid_of hbx
  obtain ⟨C, hC⟩ : ∃ C, y.cells = C := ⟨_, rfl⟩
  have HC := hid_of hC
  rw [hC] at HBX
  rw [hC]
  clear hr hn0 ha hlen hb1 hk1 hd hW1 hbx hC
  go_enter Try.func7, Try.ntmps7
  go_wp2_with (first
    | (with_reducible change wpList _ _ _ ({ dst := some 3, op := _, type := _, pos := _, after := _, guard := _ } :: _) _ _
       refine wpList_boxW (by rfl) 38 (.tmp 1) rfl (.agg C.toArray) (.pointer (some ⟨d, 0, none⟩)) rfl W1 HBX.out ?_)
    | fail)
  clear HBX
  obtain ⟨B1, hB1⟩ : ∃ B, decide (cnts acts ≤ 120) = B := ⟨_, rfl⟩
  have HB1 := hid_of hB1
  clear hB1
  refine (few_is W1 a0 n0 c0 acts (HA.out.1.below H1.out.1) HA.out.2.1 B1 HB1.out).mono ?_
  rintro e W2 ⟨rfl, hb⟩
  have H2 : Hid (Below w.heap.size w W2 ∧ Blk W2 d 38 y.cells) := ⟨below_tr H1.out.1 hb, H1.out.2.1.below hb H1.out.2.1.lt⟩
  clear hb
  cases B1 with
  | false =>
    go_wp2_with fail
    refine (lives_is W2).mono ?_
    rintro e W3 ⟨rfl, hb⟩
    have H3 : Hid (Below w.heap.size w W3) := below_tr H2.out.1 hb
    clear hb
    go_wp2
    go_ret
    exact ⟨rfl, H3.out⟩
  | true =>
  go_wp2_with (first
    | (with_reducible change wpList _ _ _ ({ dst := some 12, op := _, type := _, pos := _, after := _, guard := _ } :: _) _ _
       refine wpList_load_want (by rfl) 38 (.tmp 3) rfl d 0 rfl C _ (by rw [← HC.out]; exact H2.out.2.range0) Try.underlying38 rfl (info38 (by rw [← HC.out]; exact HA.out.2.2.2)) ?_)
    | (with_reducible change wpList _ _ _ ({ dst := some 13, op := _, type := _, pos := _, after := _, guard := _ } :: _) _ _
       refine Hid.out ?_)
    | fail)
  show wpList _ _ _ _ _ _
  refine wpList_bsW (by rfl) 22 1 _ rfl #[(0, .agg C.toArray)] (by simp only [List.map_toArray, List.map_cons, List.map_nil]; rfl) (.slice (some ⟨W2.heap.size, 0, none⟩) 1 1) (W2.alloc (.cells C.toArray 38)) (run_bslice38 (by rw [← HC.out]; exact HA.out.2.2.2) W2) ?_
  obtain ⟨W3, hW3⟩ : ∃ W, W2.alloc (.cells C.toArray 38) = W := ⟨_, rfl⟩
  obtain ⟨r1, hr1⟩ : ∃ r, W2.heap.size = r := ⟨_, rfl⟩
  have H3 : Hid (Below w.heap.size w W3 ∧ Blk W3 d 38 y.cells ∧ ActsR W3 (some ⟨r1, 0, none⟩) 1 [y]) := by
    have hb : Below W2.heap.size W2 W3 := by rw [← hW3]; exact below_al _ _
    refine ⟨below_tr H2.out.1 hb, H2.out.2.below hb H2.out.2.lt, ?_⟩
    rw [← hW3, ← hr1, ← HC.out]
    exact ActsR.one (HA.out.2.2.1.below H2.out.1)
  rw [hW3, hr1]
  clear hW3 hr1
  obtain ⟨B2, hB2⟩ : ∃ B, decide (cnts [y] ≤ 120) = B := ⟨_, rfl⟩
  have HB2 := hid_of hB2
  clear hB2
  go_wp2_with fail
  refine (few_is W3 (some ⟨r1, 0, none⟩) 1 1 [y] H3.out.2.2 (by omega) B2 HB2.out).mono ?_
  rintro e W4 ⟨rfl, hb⟩
  have H4 : Hid (Below w.heap.size w W4 ∧ Blk W4 d 38 y.cells) := ⟨below_tr H3.out.1 hb, H3.out.2.1.below hb H3.out.2.1.lt⟩
  clear hb H2 H3
  cases B2 with
  | false =>
    go_wp2_with fail
    refine (lives_is W4).mono ?_
    rintro e W5 ⟨rfl, hb⟩
    have H5 : Hid (Below w.heap.size w W5) := below_tr H4.out.1 hb
    clear hb
    go_wp2
    go_ret
    exact ⟨rfl, H5.out⟩
  | true =>
  have hc1 : cnts acts ≤ 120 := of_decide_eq_true HB1.out
  have hc2 : cnts [y] ≤ 120 := of_decide_eq_true HB2.out
  have HN : Hid (n0 ≤ 1000 ∧ (∀ x ∈ acts, x.inn ≤ 1000 ∧ x.tn ≤ 1000) ∧ y.inn ≤ 1000 ∧ y.tn ≤ 1000) := by
    refine ⟨?_, fun x hx => ?_, ?_⟩
    · have := cnts_len acts
      have := HA.out.1.1
      omega
    · have := cnts_mem hx
      unfold cnt at this
      omega
    · have := cnts_mem (l := [y]) (x := y) (by simp)
      unfold cnt at this
      omega
  clear hc1 hc2 HB1 HB2
  go_wp2_with fail
  refine (built_is W4 a0 n0 c0 acts (HA.out.1.below H4.out.1) HN.out.1 HN.out.2.1).mono ?_
  rintro e W5 ⟨p, G, rfl, hG, hbl, hI, hb⟩
  have HNd : Hid (¬ d ∈ G.bl p) := fun hm => by have := hbl d hm; have := H4.out.2.lt; omega
  have H5 : Hid (At7 w p 0 G.ps W5 G ∧ Blk W5 d 38 y.cells) := ⟨⟨hG, fun b h => Nat.le_trans H4.out.1.size (hbl b h), rfl, below_tr H4.out.1 hb⟩, H4.out.2.below hb H4.out.2.lt⟩
  have HI0 := hid_of hI
  clear hG hbl hI hb H4
  go_wp2_with fail
  refine (shown_ex H5.out.1.1 HI0.out).mono ?_
  rintro e W6 ⟨sa, sn, sc, vs, rfl, HX, HB⟩
  have H6 : Hid (At7 w p 0 G.ps W6 G ∧ Blk W6 d 38 y.cells) := ⟨H5.out.1.below HB.out, H5.out.2.below HB.out H5.out.2.lt⟩
  obtain ⟨S, hS⟩ : ∃ S, shownP G.ps vs = S := ⟨_, rfl⟩
  obtain ⟨CN, hCN⟩ : ∃ C, confP G.ps vs = C := ⟨_, rfl⟩
  have HP : Hid (Iv (n0 + 1) G.ps ∧ riseP G.ps vs ∧ shownP G.ps vs = S ∧ S.length ≤ 512 ∧ confP G.ps vs = CN) := by
    refine ⟨HI0.out, HX.out.1, hS, ?_, hCN⟩
    rw [← hS, (HI0.out.shown HX.out.1).len, ← ls_ps]
    exact H5.out.1.1.few
  have HSN : Hid (sn = G.ps.length ∧ S.length = sn) := by
    have h1 := HX.out.2.1.1
    exact ⟨by rw [← h1, (HI0.out.shown HX.out.1).len], by rw [← hS]; exact h1⟩
  have R6 : Hid (SsR W6 sa sn S) := by
    have h1 := HX.out.2.1
    rw [hS] at h1
    exact h1
  have HTP : Hid (0 < sn → ∀ g off, sa = some ⟨g, off, none⟩ → ¬ g ∈ G.bl p ∧ g < W6.heap.size) := fun hp g off e => by
    have h1 := HX.out.2.2 g off e
    obtain ⟨g', off', e', hlt, _⟩ := HX.out.2.1.2.2 hp
    rw [e'] at e
    cases e
    exact ⟨fun hm => by have := H5.out.1.1.lt g hm; omega, hlt⟩
  clear HX HB hS hCN H5
  go_wp2_with fail
  refine (conf_st H6.out.1.1 HP.out.1 HP.out.2.1 CN HP.out.2.2.2.2).mono ?_
  rintro e W7 ⟨rfl, hb⟩
  have H7 : Hid (At7 w p 0 G.ps W7 G ∧ Blk W7 d 38 y.cells) := ⟨H6.out.1.below hb, H6.out.2.below hb H6.out.2.lt⟩
  have R7 : Hid (SsR W7 sa sn S) := R6.out.below hb
  have HS67 : Hid (W6.heap.size ≤ W7.heap.size) := hb.size
  clear hb H6 R6
  go_wp2_with fail
  obtain ⟨CU, hCU⟩ : ∃ C, y.up.cells = C := ⟨_, rfl⟩
  obtain ⟨CD, hCD⟩ : ∃ C, y.dn.cells = C := ⟨_, rfl⟩
  obtain ⟨CY, hCY⟩ : ∃ C, U y.by_ = C := ⟨_, rfl⟩
  have HCU : Hid (y.up.cells = CU) := hCU
  have HCD : Hid (y.dn.cells = CD) := hCD
  have HCY : Hid (U y.by_ = CY) := hCY
  have HIF : Hid ((Try.prog.info? 34).map (·.size) = some CU.length ∧ (Try.prog.info? 34).map (·.size) = some CD.length ∧ (Try.prog.info? 32).map (·.size) = some CY.length) := ⟨by rw [← hCU]; exact info34 HA.out.2.2.1.1.1, by rw [← hCD]; exact info34 HA.out.2.2.1.2.1.1, by rw [← hCY]; exact info32 _ HA.out.2.2.1.2.2.2.2.1⟩
  clear hCU hCD hCY
  obtain ⟨AH, hAH⟩ := ahb G.ps y.up y.dn
  obtain ⟨E, hE⟩ : ∃ E, addEP G.ps AH y.up y.dn y.ids y.tn = E := ⟨_, rfl⟩
  obtain ⟨PS, hPS⟩ : ∃ PS, (if E = 0 then addP G.ps y.up y.dn y.ids y.ts else G.ps) = PS := ⟨_, rfl⟩
  have HE : Hid ((AH = true ↔ ahdP G.ps y.up y.dn) ∧ addEP G.ps AH y.up y.dn y.ids y.tn = E ∧ (if E = 0 then addP G.ps y.up y.dn y.ids y.ts else G.ps) = PS) := ⟨hAH, hE, hPS⟩
  clear hAH hE hPS
  have HRG : Hid (W7.rangeAt d 1 CU ∧ W7.rangeAt d 34 CD ∧ W7.cell? ⟨d, 67, none⟩ = some (.slice y.ia y.inn y.ic) ∧ W7.cell? ⟨d, 68, none⟩ = some (.slice y.ta y.tn y.tc)) := by
    have h := AV.ranges H7.out.2 HA.out.2.2.1.1.1 HA.out.2.2.1.2.1.1
    rw [HCU.out, HCD.out] at h
    exact ⟨h.2.1, h.2.2.1, h.2.2.2.1, h.2.2.2.2.1⟩
  have HADD : Hid (∀ V, Below W7.heap.size W7 V → Calls Try.prog 22 #[.pointer (some ⟨p, 0, none⟩), .agg CU.toArray, .agg CD.toArray, .slice y.ia y.inn y.ic, .slice y.ta y.tn y.tc] V fun e w' => e = .returned (iv E) ∧ ∃ G', GAfter V p G G' w' ∧ G'.ps = PS) := fun V hb => by
    have hbw := below_tr H7.out.1.2.2.2 hb
    exact add_st (H7.out.1.1.below hb) HP.out.1 (by have := HN.out.1; omega) y.up y.dn HA.out.2.2.1.1 HA.out.2.2.1.2.1 y.ia y.inn y.ic y.ids (HA.out.2.2.1.2.2.1.below hbw) (by have := HN.out.2.2.1; omega) y.ta y.tn y.tc y.ts (HA.out.2.2.1.2.2.2.1.below hbw) AH HE.out.1 E HE.out.2.1 PS HE.out.2.2 CU CD HCU.out HCD.out
  by_cases e0 : E = 0
  · subst e0
    have HOK : Hid (AddOk G.ps y.up y.dn y.ids y.tn ∧ PS = addP G.ps y.up y.dn y.ids y.ts) := ⟨addE_zero HE.out.2.1 HE.out.1, by rw [← HE.out.2.2, if_pos rfl]⟩
    have HLEN : Hid (∀ V G1, GAt V p G1 → G1.ps = PS → Calls Try.prog 18 #[.pointer (some ⟨p, 0, none⟩)] V fun e w' => e = .returned (iv ((sn + y.inn : Nat) : Int)) ∧ V = w') := fun V G1 h1 h2 => by
      refine (len_is h1).mono ?_
      rintro e w' ⟨rfl, rfl⟩
      refine ⟨?_, rfl⟩
      have hi := HA.out.2.2.1.2.2.1.1
      rw [ls_ps, h2, HOK.out.2, add_len, HSN.out.1, hi]
    have HDROP : Hid (∀ V G1, Keep (fun k => k ∈ G.bl p) W7 V → (GAt V p G1 ∧ G1.ps = PS ∧ ∀ k ∈ G1.bl p, k ∈ G.bl p ∨ W7.heap.size ≤ k) → Calls Try.prog 27 #[.pointer (some ⟨p, 0, none⟩), .slice y.ia y.inn y.ic] V fun e w' => e = .returned (iv 0) ∧ ∃ G', GAfter V p G1 G' w' ∧ G'.ps = G.ps) := fun V G1 hk hx => by
      have hA := H7.out.1.keep hk hx.1 hx.2.2 hx.2.1
      have hI1 : Iv (n0 + 2) G1.ps := by rw [hx.2.1, HOK.out.2]; exact HP.out.1.add (by omega) HOK.out.1
      have hE0 : dropE G1.ps y.ids = 0 := by rw [hx.2.1, HOK.out.2]; exact undo_need HP.out.1 HOK.out.1
      refine (drop_is hx.1 hI1.nef y.ia y.inn y.ic y.ids (HA.out.2.2.1.2.2.1.below hA.2.2.2) (by have := HN.out.2.2.1; omega) (fun g off e hm => ?_) 0 hE0 G.ps (by rw [if_pos rfl, hx.2.1, HOK.out.2]; exact undo_add HP.out.1 (by omega) HOK.out.1)).mono ?_
      · by_cases hn : 0 < y.inn
        · obtain ⟨g', off', e', hlt, _⟩ := HA.out.2.2.1.2.2.1.2.2 hn
          rw [e'] at e
          cases e
          have := hA.2.1 g hm
          omega
        · exact absurd ((HA.out.2.2.1.2.2.1).1.trans (by omega : y.inn = 0)) (by
            have := HOK.out.1.ne
            exact fun h => this (List.length_eq_zero_iff.1 h))
      · rintro e w' ⟨rfl, G', hga, _, hps⟩
        exact ⟨rfl, G', hga, hps⟩
    refine un5y (n := y.inn) (sn := sn) (PS := PS) (L := ((sn + y.inn : Nat) : Int)) ⟨H7.out.2.lt, HNd.out⟩ ⟨HRG.out.1, HIF.out.1⟩ ⟨HRG.out.2.1, HIF.out.2.1⟩ HRG.out.2.2.1 HRG.out.2.2.2 HADD (by rw [IntKind.wrap_i64] <;> (have := HN.out.2.2.1; have := HSN.out; have := HP.out.2.2.2.1; omega)) HLEN HDROP ?_
    intro W8 G2 hkp hx
    have H8 : Hid (At7 w p 0 G.ps W8 G2 ∧ Blk W8 d 38 y.cells) := ⟨H7.out.1.keep hkp hx.1 hx.2.2 hx.2.1, hkp.blk H7.out.2 HNd.out⟩
    have HN2 : Hid (¬ d ∈ G2.bl p) := fun hm => (hx.2.2 d hm).elim HNd.out (fun h => by have := H7.out.2.lt; omega)
    have R8 : Hid (SsR W8 sa sn S) := R7.out.keepT hkp (fun hp g off e => (HTP.out hp g off e).1)
    have HT2 : Hid (0 < sn → ∀ g off, sa = some ⟨g, off, none⟩ → ¬ g ∈ G2.bl p ∧ g < W8.heap.size) := fun hp g off e => ⟨fun hm => (hx.2.2 g hm).elim (HTP.out hp g off e).1 (fun h => by have := (HTP.out hp g off e).2; have := HS67.out; omega), by have := (HTP.out hp g off e).2; have := HS67.out; have := hkp.size; omega⟩
    clear hkp hx HADD HLEN HDROP HOK HRG H7 R7 HNd HTP HS67
    go_wp2_with fail
    refine (shown_st H8.out.1.1 (by rw [H8.out.1.2.2.1]; exact HP.out.1) (by rw [H8.out.1.2.2.1]; exact HP.out.2.1)).mono ?_
    rintro e U1a ⟨xa, xn, xc, rfl, HX, HB⟩
    have K1a : Hid (At7 w p 0 G.ps U1a G2 ∧ Blk U1a d 38 y.cells ∧ W8.heap.size ≤ U1a.heap.size) := ⟨At7.below H8.out.1 HB.out, H8.out.2.below HB.out H8.out.2.lt, HB.out.size⟩
    have R1a : Hid (SsR U1a xa xn S ∧ SsR U1a sa sn S) := by
      have h1 := HX.out
      rw [H8.out.1.2.2.1, HP.out.2.2.1] at h1
      exact ⟨h1, R8.out.below HB.out⟩
    clear HX HB
    go_wp2_with fail
    refine (rsame_is U1a xa sa xn sn xc sc S S R1a.out.1 R1a.out.2 (by have := R1a.out.1.1; have := HP.out.2.2.2.1; omega) (by have := HP.out.2.2.2.1; have := R1a.out.2.1; omega) true (by simp)).mono ?_
    rintro e U2a ⟨rfl, hb⟩
    have K2a : Hid (At7 w p 0 G.ps U2a G2 ∧ Blk U2a d 38 y.cells ∧ W8.heap.size ≤ U2a.heap.size) := ⟨At7.below K1a.out.1 hb, K1a.out.2.1.below hb K1a.out.2.1.lt, Nat.le_trans K1a.out.2.2 hb.size⟩
    have R2a : Hid (SsR U2a sa sn S) := R1a.out.2.below hb
    clear hb K1a R1a
    go_wp2_with fail
    refine (conf_st K2a.out.1.1 (by rw [K2a.out.1.2.2.1]; exact HP.out.1) (by rw [K2a.out.1.2.2.1]; exact HP.out.2.1) CN (by rw [K2a.out.1.2.2.1]; exact HP.out.2.2.2.2)).mono ?_
    rintro e U3a ⟨rfl, hb⟩
    have K3a : Hid (At7 w p 0 G.ps U3a G2 ∧ Blk U3a d 38 y.cells ∧ W8.heap.size ≤ U3a.heap.size) := ⟨At7.below K2a.out.1 hb, K2a.out.2.1.below hb K2a.out.2.1.lt, Nat.le_trans K2a.out.2.2 hb.size⟩
    have R3a : Hid (SsR U3a sa sn S) := R2a.out.below hb
    clear hb K2a R2a
    obtain ⟨EK, hEK⟩ : ∃ E, killE G.ps y.up y.by_ = E := ⟨_, rfl⟩
    obtain ⟨PK, hPK⟩ : ∃ PS, (if EK = 0 then turnP ((· ++ [y.by_])) G.ps y.up else G.ps) = PS := ⟨_, rfl⟩
    have HK : Hid (killE G.ps y.up y.by_ = EK ∧ (if EK = 0 then turnP ((· ++ [y.by_])) G.ps y.up else G.ps) = PK) := ⟨hEK, hPK⟩
    clear hEK hPK
    have HRK : Hid (U3a.rangeAt d 1 CU ∧ U3a.rangeAt d 69 CY) := by
      have h := AV.ranges K3a.out.2.1 HA.out.2.2.1.1.1 HA.out.2.2.1.2.1.1
      rw [HCU.out, HCY.out] at h
      exact ⟨h.2.1, h.2.2.2.2.2⟩
    have HT3 : Hid (0 < sn → ∀ g off, sa = some ⟨g, off, none⟩ → ¬ g ∈ G2.bl p ∧ g < U3a.heap.size) := fun hp g off e => ⟨(HT2.out hp g off e).1, Nat.lt_of_lt_of_le (HT2.out hp g off e).2 K3a.out.2.2⟩
    go_wp2_with (first
      | (with_reducible change wpList _ _ _ ({ dst := some 66, op := _, type := _, pos := _, after := _, guard := _ } :: _) _ _
         refine wpList_load_want (by rfl) 34 (.tmp 65) rfl d 1 rfl CU _ HRK.out.1 Try.underlying34 rfl HIF.out.1 ?_)
      | (with_reducible change wpList _ _ _ ({ dst := some 68, op := _, type := _, pos := _, after := _, guard := _ } :: _) _ _
         refine wpList_load_want (by rfl) 32 (.tmp 67) rfl d 69 rfl CY _ HRK.out.2 Try.underlying32 rfl HIF.out.2.2 ?_)
      | fail)
    refine (kill_is K3a.out.1.1 y.up HA.out.2.2.1.1 y.by_ (show MK.ok y.by_ from HA.out.2.2.1.2.2.2.2.1) CU HCU.out CY HCY.out EK (by rw [K3a.out.1.2.2.1]; exact HK.out.1) PK (by rw [K3a.out.1.2.2.1]; exact HK.out.2)).mono ?_
    rintro e W9 ⟨rfl, G3, hga, hps⟩
    have H9 : Hid (At7 w p 0 PK W9 G3 ∧ Blk W9 d 38 y.cells) := ⟨K3a.out.1.after hga hps, hga.2.2.blk K3a.out.2.1 HN2.out⟩
    have HN3 : Hid (¬ d ∈ G3.bl p) := fun hm => (hga.2.1 d hm).elim HN2.out (fun h => by have := K3a.out.2.1.lt; omega)
    have R9 : Hid (SsR W9 sa sn S) := R3a.out.keepT hga.2.2 (fun hp g off e => (HT3.out hp g off e).1)
    have HT4 : Hid (0 < sn → ∀ g off, sa = some ⟨g, off, none⟩ → ¬ g ∈ G3.bl p) := fun hp g off e hm => (hga.2.1 g hm).elim (HT3.out hp g off e).1 (fun h => by have := (HT3.out hp g off e).2; omega)
    clear hga hps HT2 HT3 HRK K3a R3a HN2
    by_cases ek : EK = 0
    · subst ek
      have HUK : Hid (unkillE PK y.up y.by_ = 0 ∧ turnP (fun l => l.filter (fun x => decide (x ≠ y.by_))) PK y.up = G.ps) := by
        have h := undo_kill HP.out.1.nd HK.out.1
        rw [← HK.out.2, if_pos rfl]
        exact h
      have HRK : Hid (W9.rangeAt d 1 CU ∧ W9.rangeAt d 69 CY) := by
        have h := AV.ranges H9.out.2 HA.out.2.2.1.1.1 HA.out.2.2.1.2.1.1
        rw [HCU.out, HCY.out] at h
        exact ⟨h.2.1, h.2.2.2.2.2⟩
      go_wp2_with (first
        | (with_reducible change wpList _ _ _ ({ dst := some 74, op := _, type := _, pos := _, after := _, guard := _ } :: _) _ _
           refine wpList_load_want (by rfl) 34 (.tmp 73) rfl d 1 rfl CU _ HRK.out.1 Try.underlying34 rfl HIF.out.1 ?_)
        | (with_reducible change wpList _ _ _ ({ dst := some 76, op := _, type := _, pos := _, after := _, guard := _ } :: _) _ _
           refine wpList_load_want (by rfl) 32 (.tmp 75) rfl d 69 rfl CY _ HRK.out.2 Try.underlying32 rfl HIF.out.2.2 ?_)
        | fail)
      refine (unkill_is H9.out.1.1 y.up HA.out.2.2.1.1 y.by_ (show MK.ok y.by_ from HA.out.2.2.1.2.2.2.2.1) CU HCU.out CY HCY.out 0 (by rw [H9.out.1.2.2.1]; exact HUK.out.1) G.ps (by rw [H9.out.1.2.2.1, if_pos rfl]; exact HUK.out.2)).mono ?_
      rintro e W10 ⟨rfl, G4, hga, hps⟩
      have H10 : Hid (At7 w p 0 G.ps W10 G4 ∧ Blk W10 d 38 y.cells) := ⟨H9.out.1.after hga hps, hga.2.2.blk H9.out.2 HN3.out⟩
      have R10 : Hid (SsR W10 sa sn S) := R9.out.keepT hga.2.2 (fun hp g off e => HT4.out hp g off e)
      clear hga hps HT4 HRK H9 R9 HN3 HUK
      go_wp2_with fail
      refine (shown_st H10.out.1.1 (by rw [H10.out.1.2.2.1]; exact HP.out.1) (by rw [H10.out.1.2.2.1]; exact HP.out.2.1)).mono ?_
      rintro e U1b ⟨xa, xn, xc, rfl, HX, HB⟩
      have K1b : Hid (At7 w p 0 G.ps U1b G4 ∧ Blk U1b d 38 y.cells ∧ W10.heap.size ≤ U1b.heap.size) := ⟨At7.below H10.out.1 HB.out, H10.out.2.below HB.out H10.out.2.lt, HB.out.size⟩
      have R1b : Hid (SsR U1b xa xn S ∧ SsR U1b sa sn S) := by
        have h1 := HX.out
        rw [H10.out.1.2.2.1, HP.out.2.2.1] at h1
        exact ⟨h1, R10.out.below HB.out⟩
      clear HX HB
      go_wp2_with fail
      refine (rsame_is U1b xa sa xn sn xc sc S S R1b.out.1 R1b.out.2 (by have := R1b.out.1.1; have := HP.out.2.2.2.1; omega) (by have := HP.out.2.2.2.1; have := R1b.out.2.1; omega) true (by simp)).mono ?_
      rintro e U2b ⟨rfl, hb⟩
      have K2b : Hid (At7 w p 0 G.ps U2b G4 ∧ Blk U2b d 38 y.cells ∧ W10.heap.size ≤ U2b.heap.size) := ⟨At7.below K1b.out.1 hb, K1b.out.2.1.below hb K1b.out.2.1.lt, Nat.le_trans K1b.out.2.2 hb.size⟩
      have R2b : Hid (SsR U2b sa sn S) := R1b.out.2.below hb
      clear hb K1b R1b
      go_wp2_with fail
      refine (conf_st K2b.out.1.1 (by rw [K2b.out.1.2.2.1]; exact HP.out.1) (by rw [K2b.out.1.2.2.1]; exact HP.out.2.1) CN (by rw [K2b.out.1.2.2.1]; exact HP.out.2.2.2.2)).mono ?_
      rintro e U3b ⟨rfl, hb⟩
      have K3b : Hid (At7 w p 0 G.ps U3b G4 ∧ Blk U3b d 38 y.cells ∧ W10.heap.size ≤ U3b.heap.size) := ⟨At7.below K2b.out.1 hb, K2b.out.2.1.below hb K2b.out.2.1.lt, Nat.le_trans K2b.out.2.2 hb.size⟩
      have R3b : Hid (SsR U3b sa sn S) := R2b.out.below hb
      clear hb K2b R2b
      go_wp2_with fail
      refine (lives_is U3b).mono ?_
      rintro e U4 ⟨rfl, hb⟩
      have K4 : Hid (Below w.heap.size w U4) := below_tr K3b.out.1.2.2.2 hb
      clear hb K3b R3b
      go_wp2
      go_ret
      exact ⟨rfl, K4.out⟩
    · have qk : (EK == 0) = false := by simpa using ek
      have H10 : Hid (At7 w p 0 G.ps W9 G3 ∧ Blk W9 d 38 y.cells) := ⟨by have h := H9.out.1; rw [← HK.out.2, if_neg ek] at h; exact h, H9.out.2⟩
      clear ek
      go_wp2_with fail
      refine (shown_st H10.out.1.1 (by rw [H10.out.1.2.2.1]; exact HP.out.1) (by rw [H10.out.1.2.2.1]; exact HP.out.2.1)).mono ?_
      rintro e U1b ⟨xa, xn, xc, rfl, HX, HB⟩
      have K1b : Hid (At7 w p 0 G.ps U1b G3 ∧ Blk U1b d 38 y.cells ∧ W9.heap.size ≤ U1b.heap.size) := ⟨At7.below H10.out.1 HB.out, H10.out.2.below HB.out H10.out.2.lt, HB.out.size⟩
      have R1b : Hid (SsR U1b xa xn S ∧ SsR U1b sa sn S) := by
        have h1 := HX.out
        rw [H10.out.1.2.2.1, HP.out.2.2.1] at h1
        exact ⟨h1, R9.out.below HB.out⟩
      clear HX HB
      go_wp2_with fail
      refine (rsame_is U1b xa sa xn sn xc sc S S R1b.out.1 R1b.out.2 (by have := R1b.out.1.1; have := HP.out.2.2.2.1; omega) (by have := HP.out.2.2.2.1; have := R1b.out.2.1; omega) true (by simp)).mono ?_
      rintro e U2b ⟨rfl, hb⟩
      have K2b : Hid (At7 w p 0 G.ps U2b G3 ∧ Blk U2b d 38 y.cells ∧ W9.heap.size ≤ U2b.heap.size) := ⟨At7.below K1b.out.1 hb, K1b.out.2.1.below hb K1b.out.2.1.lt, Nat.le_trans K1b.out.2.2 hb.size⟩
      have R2b : Hid (SsR U2b sa sn S) := R1b.out.2.below hb
      clear hb K1b R1b
      go_wp2_with fail
      refine (conf_st K2b.out.1.1 (by rw [K2b.out.1.2.2.1]; exact HP.out.1) (by rw [K2b.out.1.2.2.1]; exact HP.out.2.1) CN (by rw [K2b.out.1.2.2.1]; exact HP.out.2.2.2.2)).mono ?_
      rintro e U3b ⟨rfl, hb⟩
      have K3b : Hid (At7 w p 0 G.ps U3b G3 ∧ Blk U3b d 38 y.cells ∧ W9.heap.size ≤ U3b.heap.size) := ⟨At7.below K2b.out.1 hb, K2b.out.2.1.below hb K2b.out.2.1.lt, Nat.le_trans K2b.out.2.2 hb.size⟩
      have R3b : Hid (SsR U3b sa sn S) := R2b.out.below hb
      clear hb K2b R2b
      go_wp2_with fail
      refine (lives_is U3b).mono ?_
      rintro e U4 ⟨rfl, hb⟩
      have K4 : Hid (Below w.heap.size w U4) := below_tr K3b.out.1.2.2.2 hb
      clear hb K3b R3b
      go_wp2
      go_ret
      exact ⟨rfl, K4.out⟩
  · have qE : (E == 0) = false := by simpa using e0
    have HPSE : Hid (PS = G.ps) := by show _ = _; rw [← HE.out.2.2, if_neg e0]
    refine un5n (n := y.inn) (sn := sn) (PS := PS) (E := E) ⟨H7.out.2.lt, HNd.out⟩ ⟨HRG.out.1, HIF.out.1⟩ ⟨HRG.out.2.1, HIF.out.2.1⟩ HRG.out.2.2.1 HRG.out.2.2.2 HADD qE HPSE ?_
    intro W8 G2 hkp hx
    have H8 : Hid (At7 w p 0 G.ps W8 G2 ∧ Blk W8 d 38 y.cells) := ⟨H7.out.1.keep hkp hx.1 hx.2.2 hx.2.1, hkp.blk H7.out.2 HNd.out⟩
    have HN2 : Hid (¬ d ∈ G2.bl p) := fun hm => (hx.2.2 d hm).elim HNd.out (fun h => by have := H7.out.2.lt; omega)
    have R8 : Hid (SsR W8 sa sn S) := R7.out.keepT hkp (fun hp g off e => (HTP.out hp g off e).1)
    have HT2 : Hid (0 < sn → ∀ g off, sa = some ⟨g, off, none⟩ → ¬ g ∈ G2.bl p ∧ g < W8.heap.size) := fun hp g off e => ⟨fun hm => (hx.2.2 g hm).elim (HTP.out hp g off e).1 (fun h => by have := (HTP.out hp g off e).2; have := HS67.out; omega), by have := (HTP.out hp g off e).2; have := HS67.out; have := hkp.size; omega⟩
    clear hkp hx HADD HRG H7 R7 HNd HTP HS67 HPSE qE e0
    go_wp2_with fail
    refine (shown_st H8.out.1.1 (by rw [H8.out.1.2.2.1]; exact HP.out.1) (by rw [H8.out.1.2.2.1]; exact HP.out.2.1)).mono ?_
    rintro e U1a ⟨xa, xn, xc, rfl, HX, HB⟩
    have K1a : Hid (At7 w p 0 G.ps U1a G2 ∧ Blk U1a d 38 y.cells ∧ W8.heap.size ≤ U1a.heap.size) := ⟨At7.below H8.out.1 HB.out, H8.out.2.below HB.out H8.out.2.lt, HB.out.size⟩
    have R1a : Hid (SsR U1a xa xn S ∧ SsR U1a sa sn S) := by
      have h1 := HX.out
      rw [H8.out.1.2.2.1, HP.out.2.2.1] at h1
      exact ⟨h1, R8.out.below HB.out⟩
    clear HX HB
    go_wp2_with fail
    refine (rsame_is U1a xa sa xn sn xc sc S S R1a.out.1 R1a.out.2 (by have := R1a.out.1.1; have := HP.out.2.2.2.1; omega) (by have := HP.out.2.2.2.1; have := R1a.out.2.1; omega) true (by simp)).mono ?_
    rintro e U2a ⟨rfl, hb⟩
    have K2a : Hid (At7 w p 0 G.ps U2a G2 ∧ Blk U2a d 38 y.cells ∧ W8.heap.size ≤ U2a.heap.size) := ⟨At7.below K1a.out.1 hb, K1a.out.2.1.below hb K1a.out.2.1.lt, Nat.le_trans K1a.out.2.2 hb.size⟩
    have R2a : Hid (SsR U2a sa sn S) := R1a.out.2.below hb
    clear hb K1a R1a
    go_wp2_with fail
    refine (conf_st K2a.out.1.1 (by rw [K2a.out.1.2.2.1]; exact HP.out.1) (by rw [K2a.out.1.2.2.1]; exact HP.out.2.1) CN (by rw [K2a.out.1.2.2.1]; exact HP.out.2.2.2.2)).mono ?_
    rintro e U3a ⟨rfl, hb⟩
    have K3a : Hid (At7 w p 0 G.ps U3a G2 ∧ Blk U3a d 38 y.cells ∧ W8.heap.size ≤ U3a.heap.size) := ⟨At7.below K2a.out.1 hb, K2a.out.2.1.below hb K2a.out.2.1.lt, Nat.le_trans K2a.out.2.2 hb.size⟩
    have R3a : Hid (SsR U3a sa sn S) := R2a.out.below hb
    clear hb K2a R2a
    obtain ⟨EK, hEK⟩ : ∃ E, killE G.ps y.up y.by_ = E := ⟨_, rfl⟩
    obtain ⟨PK, hPK⟩ : ∃ PS, (if EK = 0 then turnP ((· ++ [y.by_])) G.ps y.up else G.ps) = PS := ⟨_, rfl⟩
    have HK : Hid (killE G.ps y.up y.by_ = EK ∧ (if EK = 0 then turnP ((· ++ [y.by_])) G.ps y.up else G.ps) = PK) := ⟨hEK, hPK⟩
    clear hEK hPK
    have HRK : Hid (U3a.rangeAt d 1 CU ∧ U3a.rangeAt d 69 CY) := by
      have h := AV.ranges K3a.out.2.1 HA.out.2.2.1.1.1 HA.out.2.2.1.2.1.1
      rw [HCU.out, HCY.out] at h
      exact ⟨h.2.1, h.2.2.2.2.2⟩
    have HT3 : Hid (0 < sn → ∀ g off, sa = some ⟨g, off, none⟩ → ¬ g ∈ G2.bl p ∧ g < U3a.heap.size) := fun hp g off e => ⟨(HT2.out hp g off e).1, Nat.lt_of_lt_of_le (HT2.out hp g off e).2 K3a.out.2.2⟩
    go_wp2_with (first
      | (with_reducible change wpList _ _ _ ({ dst := some 66, op := _, type := _, pos := _, after := _, guard := _ } :: _) _ _
         refine wpList_load_want (by rfl) 34 (.tmp 65) rfl d 1 rfl CU _ HRK.out.1 Try.underlying34 rfl HIF.out.1 ?_)
      | (with_reducible change wpList _ _ _ ({ dst := some 68, op := _, type := _, pos := _, after := _, guard := _ } :: _) _ _
         refine wpList_load_want (by rfl) 32 (.tmp 67) rfl d 69 rfl CY _ HRK.out.2 Try.underlying32 rfl HIF.out.2.2 ?_)
      | fail)
    refine (kill_is K3a.out.1.1 y.up HA.out.2.2.1.1 y.by_ (show MK.ok y.by_ from HA.out.2.2.1.2.2.2.2.1) CU HCU.out CY HCY.out EK (by rw [K3a.out.1.2.2.1]; exact HK.out.1) PK (by rw [K3a.out.1.2.2.1]; exact HK.out.2)).mono ?_
    rintro e W9 ⟨rfl, G3, hga, hps⟩
    have H9 : Hid (At7 w p 0 PK W9 G3 ∧ Blk W9 d 38 y.cells) := ⟨K3a.out.1.after hga hps, hga.2.2.blk K3a.out.2.1 HN2.out⟩
    have HN3 : Hid (¬ d ∈ G3.bl p) := fun hm => (hga.2.1 d hm).elim HN2.out (fun h => by have := K3a.out.2.1.lt; omega)
    have R9 : Hid (SsR W9 sa sn S) := R3a.out.keepT hga.2.2 (fun hp g off e => (HT3.out hp g off e).1)
    have HT4 : Hid (0 < sn → ∀ g off, sa = some ⟨g, off, none⟩ → ¬ g ∈ G3.bl p) := fun hp g off e hm => (hga.2.1 g hm).elim (HT3.out hp g off e).1 (fun h => by have := (HT3.out hp g off e).2; omega)
    clear hga hps HT2 HT3 HRK K3a R3a HN2
    by_cases ek : EK = 0
    · subst ek
      have HUK : Hid (unkillE PK y.up y.by_ = 0 ∧ turnP (fun l => l.filter (fun x => decide (x ≠ y.by_))) PK y.up = G.ps) := by
        have h := undo_kill HP.out.1.nd HK.out.1
        rw [← HK.out.2, if_pos rfl]
        exact h
      have HRK : Hid (W9.rangeAt d 1 CU ∧ W9.rangeAt d 69 CY) := by
        have h := AV.ranges H9.out.2 HA.out.2.2.1.1.1 HA.out.2.2.1.2.1.1
        rw [HCU.out, HCY.out] at h
        exact ⟨h.2.1, h.2.2.2.2.2⟩
      go_wp2_with (first
        | (with_reducible change wpList _ _ _ ({ dst := some 74, op := _, type := _, pos := _, after := _, guard := _ } :: _) _ _
           refine wpList_load_want (by rfl) 34 (.tmp 73) rfl d 1 rfl CU _ HRK.out.1 Try.underlying34 rfl HIF.out.1 ?_)
        | (with_reducible change wpList _ _ _ ({ dst := some 76, op := _, type := _, pos := _, after := _, guard := _ } :: _) _ _
           refine wpList_load_want (by rfl) 32 (.tmp 75) rfl d 69 rfl CY _ HRK.out.2 Try.underlying32 rfl HIF.out.2.2 ?_)
        | fail)
      refine (unkill_is H9.out.1.1 y.up HA.out.2.2.1.1 y.by_ (show MK.ok y.by_ from HA.out.2.2.1.2.2.2.2.1) CU HCU.out CY HCY.out 0 (by rw [H9.out.1.2.2.1]; exact HUK.out.1) G.ps (by rw [H9.out.1.2.2.1, if_pos rfl]; exact HUK.out.2)).mono ?_
      rintro e W10 ⟨rfl, G4, hga, hps⟩
      have H10 : Hid (At7 w p 0 G.ps W10 G4 ∧ Blk W10 d 38 y.cells) := ⟨H9.out.1.after hga hps, hga.2.2.blk H9.out.2 HN3.out⟩
      have R10 : Hid (SsR W10 sa sn S) := R9.out.keepT hga.2.2 (fun hp g off e => HT4.out hp g off e)
      clear hga hps HT4 HRK H9 R9 HN3 HUK
      go_wp2_with fail
      refine (shown_st H10.out.1.1 (by rw [H10.out.1.2.2.1]; exact HP.out.1) (by rw [H10.out.1.2.2.1]; exact HP.out.2.1)).mono ?_
      rintro e U1b ⟨xa, xn, xc, rfl, HX, HB⟩
      have K1b : Hid (At7 w p 0 G.ps U1b G4 ∧ Blk U1b d 38 y.cells ∧ W10.heap.size ≤ U1b.heap.size) := ⟨At7.below H10.out.1 HB.out, H10.out.2.below HB.out H10.out.2.lt, HB.out.size⟩
      have R1b : Hid (SsR U1b xa xn S ∧ SsR U1b sa sn S) := by
        have h1 := HX.out
        rw [H10.out.1.2.2.1, HP.out.2.2.1] at h1
        exact ⟨h1, R10.out.below HB.out⟩
      clear HX HB
      go_wp2_with fail
      refine (rsame_is U1b xa sa xn sn xc sc S S R1b.out.1 R1b.out.2 (by have := R1b.out.1.1; have := HP.out.2.2.2.1; omega) (by have := HP.out.2.2.2.1; have := R1b.out.2.1; omega) true (by simp)).mono ?_
      rintro e U2b ⟨rfl, hb⟩
      have K2b : Hid (At7 w p 0 G.ps U2b G4 ∧ Blk U2b d 38 y.cells ∧ W10.heap.size ≤ U2b.heap.size) := ⟨At7.below K1b.out.1 hb, K1b.out.2.1.below hb K1b.out.2.1.lt, Nat.le_trans K1b.out.2.2 hb.size⟩
      have R2b : Hid (SsR U2b sa sn S) := R1b.out.2.below hb
      clear hb K1b R1b
      go_wp2_with fail
      refine (conf_st K2b.out.1.1 (by rw [K2b.out.1.2.2.1]; exact HP.out.1) (by rw [K2b.out.1.2.2.1]; exact HP.out.2.1) CN (by rw [K2b.out.1.2.2.1]; exact HP.out.2.2.2.2)).mono ?_
      rintro e U3b ⟨rfl, hb⟩
      have K3b : Hid (At7 w p 0 G.ps U3b G4 ∧ Blk U3b d 38 y.cells ∧ W10.heap.size ≤ U3b.heap.size) := ⟨At7.below K2b.out.1 hb, K2b.out.2.1.below hb K2b.out.2.1.lt, Nat.le_trans K2b.out.2.2 hb.size⟩
      have R3b : Hid (SsR U3b sa sn S) := R2b.out.below hb
      clear hb K2b R2b
      go_wp2_with fail
      refine (lives_is U3b).mono ?_
      rintro e U4 ⟨rfl, hb⟩
      have K4 : Hid (Below w.heap.size w U4) := below_tr K3b.out.1.2.2.2 hb
      clear hb K3b R3b
      go_wp2
      go_ret
      exact ⟨rfl, K4.out⟩
    · have qk : (EK == 0) = false := by simpa using ek
      have H10 : Hid (At7 w p 0 G.ps W9 G3 ∧ Blk W9 d 38 y.cells) := ⟨by have h := H9.out.1; rw [← HK.out.2, if_neg ek] at h; exact h, H9.out.2⟩
      clear ek
      go_wp2_with fail
      refine (shown_st H10.out.1.1 (by rw [H10.out.1.2.2.1]; exact HP.out.1) (by rw [H10.out.1.2.2.1]; exact HP.out.2.1)).mono ?_
      rintro e U1b ⟨xa, xn, xc, rfl, HX, HB⟩
      have K1b : Hid (At7 w p 0 G.ps U1b G3 ∧ Blk U1b d 38 y.cells ∧ W9.heap.size ≤ U1b.heap.size) := ⟨At7.below H10.out.1 HB.out, H10.out.2.below HB.out H10.out.2.lt, HB.out.size⟩
      have R1b : Hid (SsR U1b xa xn S ∧ SsR U1b sa sn S) := by
        have h1 := HX.out
        rw [H10.out.1.2.2.1, HP.out.2.2.1] at h1
        exact ⟨h1, R9.out.below HB.out⟩
      clear HX HB
      go_wp2_with fail
      refine (rsame_is U1b xa sa xn sn xc sc S S R1b.out.1 R1b.out.2 (by have := R1b.out.1.1; have := HP.out.2.2.2.1; omega) (by have := HP.out.2.2.2.1; have := R1b.out.2.1; omega) true (by simp)).mono ?_
      rintro e U2b ⟨rfl, hb⟩
      have K2b : Hid (At7 w p 0 G.ps U2b G3 ∧ Blk U2b d 38 y.cells ∧ W9.heap.size ≤ U2b.heap.size) := ⟨At7.below K1b.out.1 hb, K1b.out.2.1.below hb K1b.out.2.1.lt, Nat.le_trans K1b.out.2.2 hb.size⟩
      have R2b : Hid (SsR U2b sa sn S) := R1b.out.2.below hb
      clear hb K1b R1b
      go_wp2_with fail
      refine (conf_st K2b.out.1.1 (by rw [K2b.out.1.2.2.1]; exact HP.out.1) (by rw [K2b.out.1.2.2.1]; exact HP.out.2.1) CN (by rw [K2b.out.1.2.2.1]; exact HP.out.2.2.2.2)).mono ?_
      rintro e U3b ⟨rfl, hb⟩
      have K3b : Hid (At7 w p 0 G.ps U3b G3 ∧ Blk U3b d 38 y.cells ∧ W9.heap.size ≤ U3b.heap.size) := ⟨At7.below K2b.out.1 hb, K2b.out.2.1.below hb K2b.out.2.1.lt, Nat.le_trans K2b.out.2.2 hb.size⟩
      have R3b : Hid (SsR U3b sa sn S) := R2b.out.below hb
      clear hb K2b R2b
      go_wp2_with fail
      refine (lives_is U3b).mono ?_
      rintro e U4 ⟨rfl, hb⟩
      have K4 : Hid (Below w.heap.size w U4) := below_tr K3b.out.1.2.2.2 hb
      clear hb K3b R3b
      go_wp2
      go_ret
      exact ⟨rfl, K4.out⟩
end Go.Proofs.Ytjcihaohpbmogaa.Oct
