/-
  Layer 11 (lines): either order: the law.
  Layer 11 (lines): who edits alone: slices and rows.
-/
import Derived.Test.YtjcihaohpbmogaaQpBR
import Derived.Test.YtjcihaohpbmogaaQpAU
import Derived.Test.YtjcihaohpbmogaaQpAV
import Derived.Test.YtjcihaohpbmogaaQpAP
/- Layer 11 (lines): either order: the law. -/
namespace Go.Proofs.Ytjcihaohpbmogaa.Oct
open Go.RowKit
set_option maxRecDepth 100000
set_option linter.unusedSimpArgs false
set_option linter.unusedVariables false
set_option linter.unusedSectionVars false

theorem fold_gen (o : Nat) : ∀ (cs : List Value) (k : Nat) (A : Array Value), o + k + cs.length ≤ A.size → ((cs.zipIdx k).foldl (fun a x => a.setIfInBounds (o + x.2) x.1) A).toList = A.toList.take (o + k) ++ cs ++ A.toList.drop (o + k + cs.length)
  | [], k, A, h => by simp
  | c :: cs, k, A, h => by
    rw [List.zipIdx_cons, List.foldl_cons, fold_gen o cs (k + 1) _ (by simp at h ⊢; omega)]
    have hk : o + k < A.toList.length := by simp at h ⊢; omega
    simp only [Array.toList_setIfInBounds]
    rw [show o + (k + 1) = o + k + 1 by omega, List.take_succ_eq_append_getElem (by simpa using hk), List.take_set_of_le (Nat.le_refl _), List.drop_set_of_lt (by omega)]
    simp
    congr 1
    omega
theorem run_bslice38b {L M : List Value} (hl : L.length = 101) (hm : M.length = 101) (W : World) : (Instr.buildSlice 22 2 #[(0, .agg L.toArray), (1, .agg M.toArray)]).run Try.prog W = .ok (.slice (some ⟨W.heap.size, 0, none⟩) 2 2) (W.alloc (.cells (L ++ M).toArray 38)) := by
  obtain ⟨i, hi, hs1, hby, z, hz, hzs⟩ : ∃ i : TypeInfo, Try.prog.info? 38 = some i ∧ i.size = 101 ∧ i.bytes ≤ 1000 ∧ ∃ z, i.zero = some z ∧ z.cells.size = 101 := by
    have h : (Try.prog.info? 38).map (fun i => (i.size, decide (i.bytes ≤ 1000), i.zero.map (·.cells.size))) = some (101, true, some 101) := by kernel_rfl
    obtain ⟨i, hi, he⟩ := Option.map_eq_some_iff.1 h
    injection he with h1 h2
    injection h2 with h2 h3
    obtain ⟨z, hz, hs⟩ := Option.map_eq_some_iff.1 h3
    exact ⟨i, hi, h1, by simpa using h2, z, hz, hs⟩
  have e1 : ∀ A : Array Value, A.size = 202 → (List.foldl (fun cs (x : Value × Nat) => cs.setIfInBounds x.2 x.1) A L.zipIdx).toList = L ++ A.toList.drop 101 := by
    intro A hA
    have := fold_gen 0 L 0 A (by rw [hl, hA]; omega)
    simp only [Nat.zero_add] at this
    rw [this, hl]
    simp
  have e1s : ∀ A : Array Value, A.size = 202 → (List.foldl (fun cs (x : Value × Nat) => cs.setIfInBounds x.2 x.1) A L.zipIdx).size = 202 := by
    intro A hA
    have := congrArg List.length (e1 A hA)
    rw [List.length_append, List.length_drop, hl] at this
    simp only [Array.length_toList, hA] at this
    exact this
  have e2 : ∀ A : Array Value, A.size = 202 → List.foldl (fun cs (x : Value × Nat) => cs.setIfInBounds (101 + x.2) x.1) (List.foldl (fun cs (x : Value × Nat) => cs.setIfInBounds x.2 x.1) A L.zipIdx) M.zipIdx = (L ++ M).toArray := by
    intro A hA
    apply Array.toList_inj.1
    rw [fold_gen 101 M 0 _ (by rw [e1s A hA, hm]; omega), e1 A hA, hm]
    simp [hl, hA]
  simp [Instr.buildSlice, run_underlying Try.underlying22, sizeOf, typeInfo, hi, hs1, zeroValue, hz, Instr.fill, Value.cells, hl, hm, e2, e1s]
  simp [newRow]
theorem ActsR.two {w : World} {a b : AV} (ha : AR w a) (hb : AR w b) (hl : a.cells.length = 101) : ActsR (w.alloc (.cells (a.cells ++ b.cells).toArray 38)) (some ⟨w.heap.size, 0, none⟩) 2 [a, b] := by
  have hk := (Blk.new w (a.cells ++ b.cells).toArray 38).range0
  refine ⟨rfl, fun x hx => ?_, fun _ => ⟨_, _, rfl, by simp, fun i x hi => ?_⟩⟩
  · rcases List.mem_cons.1 hx with rfl | hx
    · exact ha.below (below_al _ _)
    · rw [List.mem_singleton.1 hx]; exact hb.below (below_al _ _)
  · have hk : (w.alloc (.cells (a.cells ++ b.cells).toArray 38)).rangeAt w.heap.size 0 (a.cells ++ b.cells) := hk
    cases i with
    | zero =>
      simp at hi; subst hi
      simpa using rangeAt_left hk
    | succ i =>
      cases i with
      | zero =>
        simp at hi; subst hi
        have := rangeAt_right hk
        rw [hl] at this
        simpa using this
      | succ i => simp at hi
theorem iv_add {k : Nat} {ps : List PL} (h : Iv k ps) (hk : 1 ≤ k) {AH : Bool} {up dn : Vx} {ids : List Vx} {tn : Nat} {ts : List BA} (hA : AH = true ↔ ahdP ps up dn) {E : Int} (hE : addEP ps AH up dn ids tn = E) {PS : List PL} (hPS : (if E = 0 then addP ps up dn ids ts else ps) = PS) : Iv (k + 1) PS := by
  rw [← hPS]
  split
  · rename_i e
    exact h.add hk (addE_zero (by rw [hE]; exact e) hA)
  · exact h.more (by omega)
theorem add_few {w : World} {p : Nat} {G : Gm} (h : GAt w p G) : G.ps.length ≤ 512 := by rw [← ls_ps]; exact h.few
set_option maxHeartbeats 8000000 in
theorem either_law (w : World) (a0 : Option Addr) (n0 c0 : Nat) (acts : List AV) (hr : ActsR w a0 n0 acts) (hn0 : n0 ≤ 140737488355328) (x y : AV) (hx : AR w x) (hy : AR w y) : Calls Try.prog 6 #[.slice a0 n0 c0, .agg x.cells.toArray, .agg y.cells.toArray] w fun e w' => e = .returned (.bool true) ∧ Below w.heap.size w w' := by
  have hl1 := AV.len hx.1.1 hx.2.1.1 hx.2.2.2.2.1
  have hl2 := AV.len hy.1.1 hy.2.1.1 hy.2.2.2.2.1
  obtain ⟨d4, hd1⟩ : ∃ d, w.heap.size = d := ⟨_, rfl⟩
  obtain ⟨W0, hW1⟩ : ∃ W, w.alloc (.cells x.cells.toArray 38) = W := ⟨_, rfl⟩
  have hb1 : Below w.heap.size w W0 := by rw [← hW1]; exact below_al _ _
  have hk1 : Blk W0 d4 38 x.cells := by rw [← hW1, ← hd1]; simpa using Blk.new w x.cells.toArray 38
  have hbx1 : (Instr.box 38 (.agg x.cells.toArray)).run Try.prog w = .ok (.pointer (some ⟨d4, 0, none⟩)) W0 := by
    obtain ⟨i0, hi0, hs0⟩ := Option.map_eq_some_iff.1 (info38 hl1)
    rw [← hd1, ← hW1]
    exact run_box 38 (.agg x.cells.toArray) i0 hi0 (by rw [hs0]; simp [Value.cells]) w
  obtain ⟨d5, hd2⟩ : ∃ d, W0.heap.size = d := ⟨_, rfl⟩
  obtain ⟨W1, hW2⟩ : ∃ W, W0.alloc (.cells y.cells.toArray 38) = W := ⟨_, rfl⟩
  have hb2 : Below W0.heap.size W0 W1 := by rw [← hW2]; exact below_al _ _
  have hk2 : Blk W1 d5 38 y.cells := by rw [← hW2, ← hd2]; simpa using Blk.new W0 y.cells.toArray 38
  have hbx2 : (Instr.box 38 (.agg y.cells.toArray)).run Try.prog W0 = .ok (.pointer (some ⟨d5, 0, none⟩)) W1 := by
    obtain ⟨i0, hi0, hs0⟩ := Option.map_eq_some_iff.1 (info38 hl2)
    rw [← hd2, ← hW2]
    exact run_box 38 (.agg y.cells.toArray) i0 hi0 (by rw [hs0]; simp [Value.cells]) W0
  have H1 : Hid (Below w.heap.size w W1 ∧ Blk W1 d4 38 x.cells ∧ Blk W1 d5 38 y.cells) := ⟨below_tr hb1 hb2, hk1.below hb2 hk1.lt, hk2⟩
  have HA : Hid (ActsR w a0 n0 acts ∧ n0 ≤ 140737488355328 ∧ AR w x ∧ x.cells.length = 101 ∧ AR w y ∧ y.cells.length = 101) := ⟨hr, hn0, hx, hl1, hy, hl2⟩
  have HBX1 := hid_of hbx1
  have HBX2 := hid_of hbx2
  obtain ⟨C, hC⟩ : ∃ C, x.cells = C := ⟨_, rfl⟩
  obtain ⟨D, hD⟩ : ∃ D, y.cells = D := ⟨_, rfl⟩
  have HC : Hid (x.cells = C ∧ y.cells = D) := ⟨hC, hD⟩
  rw [hC] at HBX1
  rw [hD] at HBX2
  rw [hC, hD]
  clear hr hn0 hx hy hl1 hl2 hb1 hb2 hk1 hk2 hd1 hd2 hW1 hW2 hbx1 hbx2 hC hD
  go_enter Try.func6, Try.ntmps6
  go_wp2_with (first
    | (with_reducible change wpList _ _ _ ({ dst := some 4, op := _, type := _, pos := _, after := _, guard := _ } :: _) _ _
       refine wpList_boxW (by rfl) 38 (.tmp 1) rfl (.agg C.toArray) (.pointer (some ⟨d4, 0, none⟩)) rfl W0 HBX1.out ?_)
    | (with_reducible change wpList _ _ _ ({ dst := some 5, op := _, type := _, pos := _, after := _, guard := _ } :: _) _ _
       refine wpList_boxW (by rfl) 38 (.tmp 2) rfl (.agg D.toArray) (.pointer (some ⟨d5, 0, none⟩)) rfl W1 HBX2.out ?_)
    | fail)
  clear HBX1 HBX2
  obtain ⟨B1, hB1⟩ : ∃ B, decide (cnts acts ≤ 120) = B := ⟨_, rfl⟩
  have HB1 := hid_of hB1
  clear hB1
  refine (few_is W1 a0 n0 c0 acts (HA.out.1.below H1.out.1) HA.out.2.1 B1 HB1.out).mono ?_
  rintro e W2 ⟨rfl, hb⟩
  have H2 : Hid (Below w.heap.size w W2 ∧ Blk W2 d4 38 x.cells ∧ Blk W2 d5 38 y.cells) := ⟨below_tr H1.out.1 hb, H1.out.2.1.below hb H1.out.2.1.lt, H1.out.2.2.below hb H1.out.2.2.lt⟩
  clear hb H1
  cases B1 with
  | false =>
    go_wp2_with fail
    refine (lives_is _).mono ?_
    rintro e UL ⟨rfl, hb⟩
    have HL9 : Hid (Below w.heap.size w UL) := below_tr H2.out.1 hb
    clear hb
    go_wp2
    go_ret
    exact ⟨rfl, HL9.out⟩
  | true =>
  go_wp2_with (first
    | (with_reducible change wpList _ _ _ ({ dst := some 17, op := _, type := _, pos := _, after := _, guard := _ } :: _) _ _
       refine wpList_load_want (by rfl) 38 (.tmp 4) rfl d4 0 rfl C _ (by rw [← HC.out.1]; exact H2.out.2.1.range0) Try.underlying38 rfl (info38 (by rw [← HC.out.1]; exact HA.out.2.2.2.1)) ?_)
    | (with_reducible change wpList _ _ _ ({ dst := some 18, op := _, type := _, pos := _, after := _, guard := _ } :: _) _ _
       refine wpList_load_want (by rfl) 38 (.tmp 5) rfl d5 0 rfl D _ (by rw [← HC.out.2]; exact H2.out.2.2.range0) Try.underlying38 rfl (info38 (by rw [← HC.out.2]; exact HA.out.2.2.2.2.2)) ?_)
    | (with_reducible change wpList _ _ _ ({ dst := some 19, op := _, type := _, pos := _, after := _, guard := _ } :: _) _ _
       refine Hid.out ?_)
    | fail)
  show wpList _ _ _ _ _ _
  refine wpList_bsW (by rfl) 22 2 _ rfl #[(0, .agg C.toArray), (1, .agg D.toArray)] (by simp only [List.map_toArray, List.map_cons, List.map_nil]; rfl) (.slice (some ⟨W2.heap.size, 0, none⟩) 2 2) (W2.alloc (.cells (C ++ D).toArray 38)) (run_bslice38b (by rw [← HC.out.1]; exact HA.out.2.2.2.1) (by rw [← HC.out.2]; exact HA.out.2.2.2.2.2) W2) ?_
  obtain ⟨W3, hW3⟩ : ∃ W, W2.alloc (.cells (C ++ D).toArray 38) = W := ⟨_, rfl⟩
  obtain ⟨r1, hr1⟩ : ∃ r, W2.heap.size = r := ⟨_, rfl⟩
  have H3 : Hid ((Below w.heap.size w W3 ∧ Blk W3 d4 38 x.cells ∧ Blk W3 d5 38 y.cells) ∧ ActsR W3 (some ⟨r1, 0, none⟩) 2 [x, y]) := by
    have hb : Below W2.heap.size W2 W3 := by rw [← hW3]; exact below_al _ _
    refine ⟨⟨below_tr H2.out.1 hb, H2.out.2.1.below hb H2.out.2.1.lt, H2.out.2.2.below hb H2.out.2.2.lt⟩, ?_⟩
    rw [← hW3, ← hr1, ← HC.out.1, ← HC.out.2]
    exact ActsR.two (HA.out.2.2.1.below H2.out.1) (HA.out.2.2.2.2.1.below H2.out.1) HA.out.2.2.2.1
  rw [hW3, hr1]
  clear hW3 hr1
  obtain ⟨B2, hB2⟩ : ∃ B, decide (cnts [x, y] ≤ 120) = B := ⟨_, rfl⟩
  have HB2 := hid_of hB2
  clear hB2
  go_wp2_with fail
  refine (few_is W3 (some ⟨r1, 0, none⟩) 2 2 [x, y] H3.out.2 (by omega) B2 HB2.out).mono ?_
  rintro e W4 ⟨rfl, hb⟩
  have H4 : Hid (Below w.heap.size w W4 ∧ Blk W4 d4 38 x.cells ∧ Blk W4 d5 38 y.cells) := ⟨below_tr H3.out.1.1 hb, H3.out.1.2.1.below hb H3.out.1.2.1.lt, H3.out.1.2.2.below hb H3.out.1.2.2.lt⟩
  clear hb H2 H3
  cases B2 with
  | false =>
    go_wp2_with fail
    refine (lives_is _).mono ?_
    rintro e UL ⟨rfl, hb⟩
    have HL9 : Hid (Below w.heap.size w UL) := below_tr H4.out.1 hb
    clear hb
    go_wp2
    go_ret
    exact ⟨rfl, HL9.out⟩
  | true =>
  have hc1 : cnts acts ≤ 120 := of_decide_eq_true HB1.out
  have hc2 : cnts [x, y] ≤ 120 := of_decide_eq_true HB2.out
  have HN : Hid (n0 ≤ 1000 ∧ (∀ x ∈ acts, x.inn ≤ 1000 ∧ x.tn ≤ 1000) ∧ (x.inn ≤ 1000 ∧ x.tn ≤ 1000) ∧ y.inn ≤ 1000 ∧ y.tn ≤ 1000) := by
    have key : ∀ {l : List AV}, cnts l ≤ 120 → ∀ x ∈ l, x.inn ≤ 1000 ∧ x.tn ≤ 1000 := fun h x hx => by
      have := cnts_mem hx
      unfold cnt at this
      omega
    refine ⟨?_, key hc1, key hc2 x (by simp), key hc2 y (by simp)⟩
    have := cnts_len acts
    have := HA.out.1.1
    omega
  clear hc1 hc2 HB1 HB2
  go_wp2_with fail
  refine (built_is W4 a0 n0 c0 acts (HA.out.1.below H4.out.1) HN.out.1 HN.out.2.1).mono ?_
  rintro e W5 ⟨p, G, rfl, hG, hbl, hI, hb⟩
  have H5 : Hid (At7 w p 0 G.ps W5 G ∧ Blk W5 d4 38 x.cells ∧ Blk W5 d5 38 y.cells ∧ ¬ d4 ∈ G.bl p ∧ ¬ d5 ∈ G.bl p) := ⟨⟨hG, fun b h => Nat.le_trans H4.out.1.size (hbl b h), rfl, below_tr H4.out.1 hb⟩, H4.out.2.1.below hb H4.out.2.1.lt, H4.out.2.2.below hb H4.out.2.2.lt, fun hm => by have := hbl d4 hm; have := H4.out.2.1.lt; omega, fun hm => by have := hbl d5 hm; have := H4.out.2.2.lt; omega⟩
  have HI0 := hid_of hI
  clear hG hbl hI hb H4
  go_wp2_with fail
  refine (clone_is H5.out.1.1 HI0.out.nef).mono ?_
  rintro e W7 ⟨q, Q, rfl, hQ, hqb, hqp, hb⟩
  have H7 : Hid (At7 w p 0 G.ps W7 G ∧ Blk W7 d4 38 x.cells ∧ Blk W7 d5 38 y.cells ∧ ¬ d4 ∈ G.bl p ∧ ¬ d5 ∈ G.bl p) := ⟨H5.out.1.below hb, H5.out.2.1.below hb H5.out.2.1.lt, H5.out.2.2.1.below hb H5.out.2.2.1.lt, H5.out.2.2.2⟩
  have H7q : Hid (GAt W7 q Q ∧ Q.ps.Perm G.ps ∧ (∀ k ∈ Q.bl q, w.heap.size ≤ k) ∧ (∀ k ∈ Q.bl q, ¬ k ∈ G.bl p) ∧ ¬ d4 ∈ Q.bl q ∧ ¬ d5 ∈ Q.bl q) := by
    refine ⟨hQ, hqp, fun k hk => Nat.le_trans H5.out.1.2.2.2.size (hqb k hk), fun k hk hm => ?_, fun hm => ?_, fun hm => ?_⟩
    · have := hqb k hk; have := H5.out.1.1.lt k hm; omega
    · have := hqb d4 hm; have := H5.out.2.1.lt; omega
    · have := hqb d5 hm; have := H5.out.2.2.1.lt; omega
  clear hQ hqb hqp hb H5
  go_wp2_with fail
  obtain ⟨XU, hXU⟩ : ∃ C, x.up.cells = C := ⟨_, rfl⟩
  obtain ⟨XD, hXD⟩ : ∃ C, x.dn.cells = C := ⟨_, rfl⟩
  obtain ⟨YU, hYU⟩ : ∃ C, y.up.cells = C := ⟨_, rfl⟩
  obtain ⟨YD, hYD⟩ : ∃ C, y.dn.cells = C := ⟨_, rfl⟩
  have HX : Hid (x.up.cells = XU ∧ x.dn.cells = XD ∧ y.up.cells = YU ∧ y.dn.cells = YD) := ⟨hXU, hXD, hYU, hYD⟩
  have HIF : Hid ((Try.prog.info? 34).map (·.size) = some XU.length ∧ (Try.prog.info? 34).map (·.size) = some XD.length ∧ (Try.prog.info? 34).map (·.size) = some YU.length ∧ (Try.prog.info? 34).map (·.size) = some YD.length) := ⟨by rw [← hXU]; exact info34 HA.out.2.2.1.1.1, by rw [← hXD]; exact info34 HA.out.2.2.1.2.1.1, by rw [← hYU]; exact info34 HA.out.2.2.2.2.1.1.1, by rw [← hYD]; exact info34 HA.out.2.2.2.2.1.2.1.1⟩
  clear hXU hXD hYU hYD
  obtain ⟨AH1, hAH1⟩ := ahb G.ps x.up x.dn
  obtain ⟨E1, hE1⟩ : ∃ E, addEP G.ps AH1 x.up x.dn x.ids x.tn = E := ⟨_, rfl⟩
  obtain ⟨P1, hP1⟩ : ∃ PS, (if E1 = 0 then addP G.ps x.up x.dn x.ids x.ts else G.ps) = PS := ⟨_, rfl⟩
  obtain ⟨AH2, hAH2⟩ := ahb P1 y.up y.dn
  obtain ⟨E2, hE2⟩ : ∃ E, addEP P1 AH2 y.up y.dn y.ids y.tn = E := ⟨_, rfl⟩
  obtain ⟨P2, hP2⟩ : ∃ PS, (if E2 = 0 then addP P1 y.up y.dn y.ids y.ts else P1) = PS := ⟨_, rfl⟩
  obtain ⟨AH3, hAH3⟩ := ahb Q.ps y.up y.dn
  obtain ⟨E3, hE3⟩ : ∃ E, addEP Q.ps AH3 y.up y.dn y.ids y.tn = E := ⟨_, rfl⟩
  obtain ⟨P3, hP3⟩ : ∃ PS, (if E3 = 0 then addP Q.ps y.up y.dn y.ids y.ts else Q.ps) = PS := ⟨_, rfl⟩
  obtain ⟨AH4, hAH4⟩ := ahb P3 x.up x.dn
  obtain ⟨E4, hE4⟩ : ∃ E, addEP P3 AH4 x.up x.dn x.ids x.tn = E := ⟨_, rfl⟩
  obtain ⟨P4, hP4⟩ : ∃ PS, (if E4 = 0 then addP P3 x.up x.dn x.ids x.ts else P3) = PS := ⟨_, rfl⟩
  have HE1 : Hid ((AH1 = true ↔ ahdP G.ps x.up x.dn) ∧ addEP G.ps AH1 x.up x.dn x.ids x.tn = E1 ∧ (if E1 = 0 then addP G.ps x.up x.dn x.ids x.ts else G.ps) = P1) := ⟨hAH1, hE1, hP1⟩
  have HE2 : Hid ((AH2 = true ↔ ahdP P1 y.up y.dn) ∧ addEP P1 AH2 y.up y.dn y.ids y.tn = E2 ∧ (if E2 = 0 then addP P1 y.up y.dn y.ids y.ts else P1) = P2) := ⟨hAH2, hE2, hP2⟩
  have HE3 : Hid ((AH3 = true ↔ ahdP Q.ps y.up y.dn) ∧ addEP Q.ps AH3 y.up y.dn y.ids y.tn = E3 ∧ (if E3 = 0 then addP Q.ps y.up y.dn y.ids y.ts else Q.ps) = P3) := ⟨hAH3, hE3, hP3⟩
  have HE4 : Hid ((AH4 = true ↔ ahdP P3 x.up x.dn) ∧ addEP P3 AH4 x.up x.dn x.ids x.tn = E4 ∧ (if E4 = 0 then addP P3 x.up x.dn x.ids x.ts else P3) = P4) := ⟨hAH4, hE4, hP4⟩
  clear hAH1 hE1 hP1 hAH2 hE2 hP2 hAH3 hE3 hP3 hAH4 hE4 hP4
  have HIV : Hid (Iv (n0 + 1) G.ps ∧ Iv (n0 + 2) P1 ∧ Iv (n0 + 3) P2 ∧ Iv (n0 + 1) Q.ps ∧ Iv (n0 + 2) P3 ∧ Iv (n0 + 3) P4) := by
    have i0 := HI0.out
    have i1 := iv_add i0 (by omega) HE1.out.1 HE1.out.2.1 HE1.out.2.2
    have i2 := iv_add i1 (by omega) HE2.out.1 HE2.out.2.1 HE2.out.2.2
    have j0 := i0.perm H7q.out.2.1.symm
    have j1 := iv_add j0 (by omega) HE3.out.1 HE3.out.2.1 HE3.out.2.2
    have j2 := iv_add j1 (by omega) HE4.out.1 HE4.out.2.1 HE4.out.2.2
    exact ⟨i0, i1, i2, j0, j1, j2⟩
  have hrx := AV.ranges H7.out.2.1 HA.out.2.2.1.1.1 HA.out.2.2.1.2.1.1
  have hry := AV.ranges H7.out.2.2.1 HA.out.2.2.2.2.1.1.1 HA.out.2.2.2.2.1.2.1.1
  rw [HX.out.1, HX.out.2.1] at hrx
  rw [HX.out.2.2.1, HX.out.2.2.2] at hry
  have HADD1 : Hid (∀ V, Below W7.heap.size W7 V → Calls Try.prog 22 #[.pointer (some ⟨p, 0, none⟩), .agg XU.toArray, .agg XD.toArray, .slice x.ia x.inn x.ic, .slice x.ta x.tn x.tc] V fun e w' => e = .returned (iv E1) ∧ ∃ G', GAfter V p G G' w' ∧ G'.ps = P1) := fun V hb => by
    have hbw := below_tr H7.out.1.2.2.2 hb
    exact add_st (H7.out.1.1.below hb) HIV.out.1 (by have := HN.out.1; omega) x.up x.dn HA.out.2.2.1.1 HA.out.2.2.1.2.1 x.ia x.inn x.ic x.ids (HA.out.2.2.1.2.2.1.below hbw) (by have := HN.out.2.2.1; omega) x.ta x.tn x.tc x.ts (HA.out.2.2.1.2.2.2.1.below hbw) AH1 HE1.out.1 E1 HE1.out.2.1 P1 HE1.out.2.2 XU XD HX.out.1 HX.out.2.1
  have HADD2 : Hid (∀ V G1, Keep (fun k => k ∈ G.bl p) W7 V → (GAt V p G1 ∧ G1.ps = P1 ∧ ∀ k ∈ G1.bl p, k ∈ G.bl p ∨ W7.heap.size ≤ k) → Calls Try.prog 22 #[.pointer (some ⟨p, 0, none⟩), .agg YU.toArray, .agg YD.toArray, .slice y.ia y.inn y.ic, .slice y.ta y.tn y.tc] V fun e w' => e = .returned (iv E2) ∧ ∃ G', GAfter V p G1 G' w' ∧ G'.ps = P2) := fun V G1 hk hx => by
    have hA := H7.out.1.keep hk hx.1 hx.2.2 hx.2.1
    exact add_st hx.1 (by rw [hx.2.1]; exact HIV.out.2.1) (by have := HN.out.1; omega) y.up y.dn HA.out.2.2.2.2.1.1 HA.out.2.2.2.2.1.2.1 y.ia y.inn y.ic y.ids (HA.out.2.2.2.2.1.2.2.1.below hA.2.2.2) (by have := HN.out.2.2.2; omega) y.ta y.tn y.tc y.ts (HA.out.2.2.2.2.1.2.2.2.1.below hA.2.2.2) AH2 (by rw [hx.2.1]; exact HE2.out.1) E2 (by rw [hx.2.1]; exact HE2.out.2.1) P2 (by rw [hx.2.1]; exact HE2.out.2.2) YU YD HX.out.2.2.1 HX.out.2.2.2
  refine ei5 (P1 := P1) ⟨H7.out.2.1.lt, H7.out.2.2.2.1⟩ ⟨hrx.2.1, HIF.out.1⟩ ⟨hrx.2.2.1, HIF.out.2.1⟩ hrx.2.2.2.1 hrx.2.2.2.2.1 ⟨H7.out.2.2.1.lt, H7.out.2.2.2.2⟩ ⟨hry.2.1, HIF.out.2.2.1⟩ ⟨hry.2.2.1, HIF.out.2.2.2⟩ hry.2.2.2.1 hry.2.2.2.2.1 HADD1 HADD2 ?_
  intro W8 G2 hkp hx2
  have H8 : Hid (At7 w p 0 P2 W8 G2 ∧ Blk W8 d4 38 x.cells ∧ Blk W8 d5 38 y.cells) := ⟨H7.out.1.keep hkp hx2.1 hx2.2.2 hx2.2.1, hkp.blk H7.out.2.1 H7.out.2.2.2.1, hkp.blk H7.out.2.2.1 H7.out.2.2.2.2⟩
  have H8q : Hid (GAt W8 q Q ∧ Q.ps.Perm G.ps ∧ (∀ k ∈ Q.bl q, w.heap.size ≤ k) ∧ (∀ k ∈ G2.bl p, ¬ k ∈ Q.bl q) ∧ ¬ d4 ∈ Q.bl q ∧ ¬ d5 ∈ Q.bl q) := by
    refine ⟨H7q.out.1.keep hkp (fun k hk hm => H7q.out.2.2.2.1 k hk hm), H7q.out.2.1, H7q.out.2.2.1, fun k hk hm => ?_, H7q.out.2.2.2.2⟩
    rcases hx2.2.2 k hk with h | h
    · exact H7q.out.2.2.2.1 k hm h
    · have := H7q.out.1.lt k hm; omega
  clear hkp hx2 HADD1 HADD2 hrx hry H7 H7q
  go_wp2_with fail
  have hrx := AV.ranges H8.out.2.1 HA.out.2.2.1.1.1 HA.out.2.2.1.2.1.1
  have hry := AV.ranges H8.out.2.2 HA.out.2.2.2.2.1.1.1 HA.out.2.2.2.2.1.2.1.1
  rw [HX.out.1, HX.out.2.1] at hrx
  rw [HX.out.2.2.1, HX.out.2.2.2] at hry
  have H8Q : Hid (At7 w q 0 Q.ps W8 Q) := ⟨H8q.out.1, H8q.out.2.2.1, rfl, H8.out.1.2.2.2⟩
  have HADD1 : Hid (∀ V, Below W8.heap.size W8 V → Calls Try.prog 22 #[.pointer (some ⟨q, 0, none⟩), .agg YU.toArray, .agg YD.toArray, .slice y.ia y.inn y.ic, .slice y.ta y.tn y.tc] V fun e w' => e = .returned (iv E3) ∧ ∃ G', GAfter V q Q G' w' ∧ G'.ps = P3) := fun V hb => by
    have hbw := below_tr H8.out.1.2.2.2 hb
    exact add_st (H8q.out.1.below hb) HIV.out.2.2.2.1 (by have := HN.out.1; omega) y.up y.dn HA.out.2.2.2.2.1.1 HA.out.2.2.2.2.1.2.1 y.ia y.inn y.ic y.ids (HA.out.2.2.2.2.1.2.2.1.below hbw) (by have := HN.out.2.2.2; omega) y.ta y.tn y.tc y.ts (HA.out.2.2.2.2.1.2.2.2.1.below hbw) AH3 HE3.out.1 E3 HE3.out.2.1 P3 HE3.out.2.2 YU YD HX.out.2.2.1 HX.out.2.2.2
  have HADD2 : Hid (∀ V G1, Keep (fun k => k ∈ Q.bl q) W8 V → (GAt V q G1 ∧ G1.ps = P3 ∧ ∀ k ∈ G1.bl q, k ∈ Q.bl q ∨ W8.heap.size ≤ k) → Calls Try.prog 22 #[.pointer (some ⟨q, 0, none⟩), .agg XU.toArray, .agg XD.toArray, .slice x.ia x.inn x.ic, .slice x.ta x.tn x.tc] V fun e w' => e = .returned (iv E4) ∧ ∃ G', GAfter V q G1 G' w' ∧ G'.ps = P4) := fun V G1 hk hx => by
    have hA := H8Q.out.keep hk hx.1 hx.2.2 hx.2.1
    exact add_st hx.1 (by rw [hx.2.1]; exact HIV.out.2.2.2.2.1) (by have := HN.out.1; omega) x.up x.dn HA.out.2.2.1.1 HA.out.2.2.1.2.1 x.ia x.inn x.ic x.ids (HA.out.2.2.1.2.2.1.below hA.2.2.2) (by have := HN.out.2.2.1; omega) x.ta x.tn x.tc x.ts (HA.out.2.2.1.2.2.2.1.below hA.2.2.2) AH4 (by rw [hx.2.1]; exact HE4.out.1) E4 (by rw [hx.2.1]; exact HE4.out.2.1) P4 (by rw [hx.2.1]; exact HE4.out.2.2) XU XD HX.out.1 HX.out.2.1
  refine ei6 (P1 := P3) ⟨H8.out.2.2.lt, H8q.out.2.2.2.2.2⟩ ⟨hry.2.1, HIF.out.2.2.1⟩ ⟨hry.2.2.1, HIF.out.2.2.2⟩ hry.2.2.2.1 hry.2.2.2.2.1 ⟨H8.out.2.1.lt, H8q.out.2.2.2.2.1⟩ ⟨hrx.2.1, HIF.out.1⟩ ⟨hrx.2.2.1, HIF.out.2.1⟩ hrx.2.2.2.1 hrx.2.2.2.2.1 HADD1 HADD2 ?_
  intro W9 Q2 hkp hx2
  have H9 : Hid (GAt W9 p G2 ∧ G2.ps = P2 ∧ GAt W9 q Q2 ∧ Q2.ps = P4 ∧ Below w.heap.size w W9) := ⟨H8.out.1.1.keep hkp (fun k hk => H8q.out.2.2.2.1 k hk), H8.out.1.2.2.1, hx2.1, hx2.2.1, (H8Q.out.keep hkp hx2.1 hx2.2.2 hx2.2.1).2.2.2⟩
  have HPQ : Hid (Q.ps.Perm G.ps) := H8q.out.2.1
  clear hkp hx2 HADD1 HADD2 hrx hry H8 H8q H8Q HIF HX
  by_cases e1 : E1 ≠ 0
  · have q1 : (E1 == 0) = false := by simpa using e1
    have q2 : (E1 != 0) = true := by simpa using e1
    clear e1
    go_wp2_with fail
    refine (lives_is _).mono ?_
    rintro e UL ⟨rfl, hb⟩
    have HL9 : Hid (Below w.heap.size w UL) := below_tr H9.out.2.2.2.2 hb
    clear hb
    go_wp2
    go_ret
    exact ⟨rfl, HL9.out⟩
  obtain rfl : E1 = 0 := Classical.not_not.1 e1
  clear e1
  by_cases e2 : E2 ≠ 0
  · have q1 : (E2 == 0) = false := by simpa using e2
    have q2 : (E2 != 0) = true := by simpa using e2
    clear e2
    go_wp2_with fail
    refine (lives_is _).mono ?_
    rintro e UL ⟨rfl, hb⟩
    have HL9 : Hid (Below w.heap.size w UL) := below_tr H9.out.2.2.2.2 hb
    clear hb
    go_wp2
    go_ret
    exact ⟨rfl, HL9.out⟩
  obtain rfl : E2 = 0 := Classical.not_not.1 e2
  clear e2
  by_cases e3 : E3 ≠ 0
  · have q1 : (E3 == 0) = false := by simpa using e3
    have q2 : (E3 != 0) = true := by simpa using e3
    clear e3
    go_wp2_with fail
    refine (lives_is _).mono ?_
    rintro e UL ⟨rfl, hb⟩
    have HL9 : Hid (Below w.heap.size w UL) := below_tr H9.out.2.2.2.2 hb
    clear hb
    go_wp2
    go_ret
    exact ⟨rfl, HL9.out⟩
  obtain rfl : E3 = 0 := Classical.not_not.1 e3
  clear e3
  by_cases e4 : E4 ≠ 0
  · have q1 : (E4 == 0) = false := by simpa using e4
    have q2 : (E4 != 0) = true := by simpa using e4
    clear e4
    go_wp2_with fail
    refine (lives_is _).mono ?_
    rintro e UL ⟨rfl, hb⟩
    have HL9 : Hid (Below w.heap.size w UL) := below_tr H9.out.2.2.2.2 hb
    clear hb
    go_wp2
    go_ret
    exact ⟨rfl, HL9.out⟩
  obtain rfl : E4 = 0 := Classical.not_not.1 e4
  clear e4
  have HSM : Hid (Sim P2 P4) := by
    have a1 := addE_zero HE1.out.2.1 HE1.out.1
    have a2 := addE_zero HE2.out.2.1 HE2.out.1
    have a3 := addE_zero HE3.out.2.1 HE3.out.1
    have a4 := addE_zero HE4.out.2.1 HE4.out.1
    have e1 := HE1.out.2.2
    have e2 := HE2.out.2.2
    have e3 := HE3.out.2.2
    have e4 := HE4.out.2.2
    rw [if_pos rfl] at e1 e2 e3 e4
    rw [← e1] at a2
    rw [← e3] at a4
    rw [← e2, ← e1, ← e4, ← e3]
    exact either HIV.out.1 (by omega) HPQ.out.symm a1 a2 a3 a4
  clear HE1 HE2 HE3 HE4 HPQ
  go_wp2_with fail
  refine (shown_ex H9.out.1 (by rw [H9.out.2.1]; exact HIV.out.2.2.1)).mono ?_
  rintro e U1 ⟨sa, sn, sc, vs, rfl, HS, HB⟩
  obtain ⟨S, hS⟩ : ∃ S, shownP P2 vs = S := ⟨_, rfl⟩
  obtain ⟨CN, hCN⟩ : ∃ C, confP P2 vs = C := ⟨_, rfl⟩
  have hr := HS.out.1
  have hs := HS.out.2.1
  rw [H9.out.2.1] at hr hs
  rw [hS] at hs
  have HP : Hid (riseP P2 vs ∧ riseP P4 vs ∧ shownP P4 vs = S ∧ confP P2 vs = CN ∧ confP P4 vs = CN ∧ S.length ≤ 512) := by
    have hf : P2.length ≤ 512 := by rw [← H9.out.2.1]; exact add_few H9.out.1
    have h5 := (HIV.out.2.2.1.shown hr).len
    rw [hS] at h5
    refine ⟨hr, HSM.out.rise hr, by rw [← HSM.out.shown vs, hS], hCN, ?_, by omega⟩
    rw [← HSM.out.conf vs (by rw [rise_len hr]; exact hf), hCN]
  have K1 : Hid (GAt U1 p G2 ∧ G2.ps = P2 ∧ GAt U1 q Q2 ∧ Q2.ps = P4 ∧ Below w.heap.size w U1 ∧ SsR U1 sa sn S) := ⟨H9.out.1.below HB.out, H9.out.2.1, H9.out.2.2.1.below HB.out, H9.out.2.2.2.1, below_tr H9.out.2.2.2.2 HB.out, hs⟩
  clear HS HB hS hCN hr hs H9 HSM
  go_wp2_with fail
  refine (shown_st K1.out.2.2.1 (by rw [K1.out.2.2.2.1]; exact HIV.out.2.2.2.2.2) (by rw [K1.out.2.2.2.1]; exact HP.out.2.1)).mono ?_
  rintro e U2 ⟨xa, xn, xc, rfl, HS, HB⟩
  have hs := HS.out
  rw [K1.out.2.2.2.1, HP.out.2.2.1] at hs
  have K2 : Hid (GAt U2 p G2 ∧ G2.ps = P2 ∧ GAt U2 q Q2 ∧ Q2.ps = P4 ∧ Below w.heap.size w U2 ∧ SsR U2 sa sn S ∧ SsR U2 xa xn S) := ⟨K1.out.1.below HB.out, K1.out.2.1, K1.out.2.2.1.below HB.out, K1.out.2.2.2.1, below_tr K1.out.2.2.2.2.1 HB.out, K1.out.2.2.2.2.2.below HB.out, hs⟩
  clear HS HB hs K1
  go_wp2_with fail
  refine (rsame_is U2 sa xa sn xn sc xc S S K2.out.2.2.2.2.2.1 K2.out.2.2.2.2.2.2 (by have := K2.out.2.2.2.2.2.1.1; have := HP.out.2.2.2.2.2; omega) (by have := K2.out.2.2.2.2.2.2.1; have := HP.out.2.2.2.2.2; omega) true (by simp)).mono ?_
  rintro e U3 ⟨rfl, hb⟩
  have K3 : Hid (GAt U3 p G2 ∧ G2.ps = P2 ∧ GAt U3 q Q2 ∧ Q2.ps = P4 ∧ Below w.heap.size w U3) := ⟨K2.out.1.below hb, K2.out.2.1, K2.out.2.2.1.below hb, K2.out.2.2.2.1, below_tr K2.out.2.2.2.2.1 hb⟩
  clear hb K2
  go_wp2_with fail
  refine (conf_st K3.out.1 (by rw [K3.out.2.1]; exact HIV.out.2.2.1) (by rw [K3.out.2.1]; exact HP.out.1) CN (by rw [K3.out.2.1]; exact HP.out.2.2.2.1)).mono ?_
  rintro e U4 ⟨rfl, hb⟩
  have K4 : Hid (GAt U4 q Q2 ∧ Q2.ps = P4 ∧ Below w.heap.size w U4) := ⟨K3.out.2.2.1.below hb, K3.out.2.2.2.1, below_tr K3.out.2.2.2.2 hb⟩
  clear hb K3
  go_wp2_with fail
  refine (conf_st K4.out.1 (by rw [K4.out.2.1]; exact HIV.out.2.2.2.2.2) (by rw [K4.out.2.1]; exact HP.out.2.1) CN (by rw [K4.out.2.1]; exact HP.out.2.2.2.2.1)).mono ?_
  rintro e U5 ⟨rfl, hb⟩
  have K5 : Hid (Below w.heap.size w U5) := below_tr K4.out.2.2 hb
  clear hb K4
  go_wp2_with fail
  refine (lives_is _).mono ?_
  rintro e UL ⟨rfl, hb⟩
  have HL9 : Hid (Below w.heap.size w UL) := below_tr K5.out hb
  clear hb
  go_wp2
  go_ret
  exact ⟨rfl, HL9.out⟩
end Go.Proofs.Ytjcihaohpbmogaa.Oct

/- Layer 11 (lines): who edits alone: slices and rows. -/
namespace Go.Proofs.Ytjcihaohpbmogaa.Oct
open Go.RowKit
set_option maxRecDepth 100000
set_option linter.unusedSimpArgs false
set_option linter.unusedVariables false
set_option linter.unusedSectionVars false

theorem yl_slice {o : Oper} {a : Act} (V : World) (t : TypeId) (x : Operand) (lo hi mx : Option Operand) (hop : o.op = .slice t x lo hi mx) (vx : Value) (vl vh vm : Option Value) (hx : a.eval x = vx) (hl : lo.map a.eval = vl) (hh : hi.map a.eval = vh) (hm : mx.map a.eval = vm) (r : Value) (hr : (Instr.sliceAt t vx vl vh vm).run Try.prog V = .ok r V) : (execOp a.eval o).run Try.prog V = .ok (.value r) V := by
  subst hx hl hh hm
  unfold execOp
  simp only [hop, Sem.run_bind, hr, Sem.run_pure, Result.andThen_ok]
theorem VsR.take {w : World} {a : Option Addr} {n k : Nat} {vs : List Vx} (h : VsR w a n vs) (hk : k ≤ n) : VsR w a k (vs.take k) := by
  refine ⟨by rw [List.length_take, h.1]; omega, fun v hv => h.2.1 v (List.mem_of_mem_take hv), fun hp => ?_⟩
  obtain ⟨g, off, e, h1, h2⟩ := h.2.2 (by omega)
  refine ⟨g, off, e, h1, fun i v hi => h2 i v ?_⟩
  rw [List.getElem?_take] at hi
  split at hi
  · exact hi
  · cases hi
theorem VsR.drop {w : World} {g off n k : Nat} {vs : List Vx} (h : VsR w (some ⟨g, off, none⟩) n vs) (hk : k ≤ n) : VsR w (some ⟨g, off + k * 33, none⟩) (n - k) (vs.drop k) := by
  refine ⟨by rw [List.length_drop, h.1], fun v hv => h.2.1 v (List.mem_of_mem_drop hv), fun hp => ?_⟩
  obtain ⟨g', off', e, h1, h2⟩ := h.2.2 (by omega)
  cases e
  refine ⟨g, off + k * 33, rfl, h1, fun i v hi => ?_⟩
  rw [List.getElem?_drop] at hi
  have := h2 (k + i) v hi
  rw [Nat.add_mul, ← Nat.add_assoc] at this
  exact this
theorem TsR.take {w : World} {a : Option Addr} {n k : Nat} {vs : List BA} (h : TsR w a n vs) (hk : k ≤ n) : TsR w a k (vs.take k) := by
  refine ⟨by rw [List.length_take, h.1]; omega, fun hp => ?_⟩
  obtain ⟨g, off, e, h1, h2⟩ := h.2 (by omega)
  refine ⟨g, off, e, h1, fun i v hi => h2 i v ?_⟩
  rw [List.getElem?_take] at hi
  split at hi
  · exact hi
  · cases hi
theorem TsR.drop {w : World} {g off n k : Nat} {vs : List BA} (h : TsR w (some ⟨g, off, none⟩) n vs) (hk : k ≤ n) : TsR w (some ⟨g, off + k * 1, none⟩) (n - k) (vs.drop k) := by
  refine ⟨by rw [List.length_drop, h.1], fun hp => ?_⟩
  obtain ⟨g', off', e, h1, h2⟩ := h.2 (by omega)
  cases e
  refine ⟨g, off + k * 1, rfl, h1, fun i v hi => ?_⟩
  rw [List.getElem?_drop] at hi
  have := h2 (k + i) v hi
  rw [Nat.mul_one, Nat.add_assoc]
  exact this
theorem TsR.nil (w : World) (a : Option Addr) : TsR w a 0 [] := ⟨rfl, fun h => absurd h (by omega)⟩
theorem elem35 : Try.prog.underlying 35 = some (.slice (Try.prog.elem 35)) := by kernel_rfl
theorem elem36 : Try.prog.underlying 36 = some (.slice (Try.prog.elem 36)) := by kernel_rfl
theorem size35 (W : World) : (sizeOf (Try.prog.elem 35)).run Try.prog W = .ok 33 W := by kernel_rfl
theorem size36 (W : World) : (sizeOf (Try.prog.elem 36)).run Try.prog W = .ok 1 W := by kernel_rfl
def shA (a : Option Addr) (l c s : Nat) : Option Addr := if c = l then a else a.map (·.add (l * s))
theorem shA_0 (a : Addr) (c s : Nat) (h : a.spot = none) : shA (some a) 0 c s = some a := by
  obtain ⟨g, off, spot⟩ := a
  simp only at h
  subst h
  unfold shA
  split
  · rfl
  · simp [Addr.add_lit]
theorem run_lo35 (a : Option Addr) (n c k : Nat) (hk : k ≤ n) (hc : n ≤ c) (V : World) : (Instr.sliceAt 35 (.slice a n c) none (some (iv (k : Int))) none).run Try.prog V = .ok (.slice (shA a 0 c 33) k c) V := by
  rw [run_sliceAt_slice V 35 _ _ _ _ elem35, run_slice_h V 35 a n c elem35 .i64 (k : Int) (by omega) (by omega), size35]
  rfl
theorem run_lo36 (a : Option Addr) (n c k : Nat) (hk : k ≤ n) (hc : n ≤ c) (V : World) : (Instr.sliceAt 36 (.slice a n c) none (some (iv (k : Int))) none).run Try.prog V = .ok (.slice (shA a 0 c 1) k c) V := by
  rw [run_sliceAt_slice V 36 _ _ _ _ elem36, run_slice_h V 36 a n c elem36 .i64 (k : Int) (by omega) (by omega), size36]
  rfl
theorem run_hi35 (a : Option Addr) (n c k : Nat) (hk : k ≤ n) (V : World) : (Instr.sliceAt 35 (.slice a n c) (some (iv (k : Int))) none none).run Try.prog V = .ok (.slice (shA a k c 33) (n - k) (c - k)) V := by
  rw [run_sliceAt_slice V 35 _ _ _ _ elem35, run_slice_l V 35 a n c elem35 .i64 (k : Int) (by omega) (by omega), size35]
  rfl
theorem run_hi36 (a : Option Addr) (n c k : Nat) (hk : k ≤ n) (V : World) : (Instr.sliceAt 36 (.slice a n c) (some (iv (k : Int))) none none).run Try.prog V = .ok (.slice (shA a k c 1) (n - k) (c - k)) V := by
  rw [run_sliceAt_slice V 36 _ _ _ _ elem36, run_slice_l V 36 a n c elem36 .i64 (k : Int) (by omega) (by omega), size36]
  rfl
theorem VsR.lo {w : World} {a : Option Addr} {n c k : Nat} {vs : List Vx} (h : VsR w a n vs) (hk : k ≤ n) : VsR w (shA a 0 c 33) k (vs.take k) := by
  by_cases h0 : 0 < k
  · have h1 := h.take hk
    obtain ⟨g, off, e, _, _⟩ := h1.2.2 h0
    subst e
    rw [shA_0 _ _ _ rfl]
    exact h1
  · obtain rfl : k = 0 := by omega
    rw [List.take_zero]
    exact VsR.nil _ _
theorem TsR.lo {w : World} {a : Option Addr} {n c k : Nat} {vs : List BA} (h : TsR w a n vs) (hk : k ≤ n) : TsR w (shA a 0 c 1) k (vs.take k) := by
  by_cases h0 : 0 < k
  · have h1 := h.take hk
    obtain ⟨g, off, e, _, _⟩ := h1.2 h0
    subst e
    rw [shA_0 _ _ _ rfl]
    exact h1
  · obtain rfl : k = 0 := by omega
    rw [List.take_zero]
    exact TsR.nil _ _
theorem VsR.hi {w : World} {a : Option Addr} {n c k : Nat} {vs : List Vx} (h : VsR w a n vs) (hk : k ≤ n) (hc : n ≤ c) : VsR w (shA a k c 33) (n - k) (vs.drop k) := by
  by_cases h0 : k < n
  · obtain ⟨g, off, e, _, _⟩ := h.2.2 (by omega)
    subst e
    have : shA (some ⟨g, off, none⟩) k c 33 = some ⟨g, off + k * 33, none⟩ := by
      unfold shA
      rw [if_neg (by omega)]
      simp [Addr.add_lit]
    rw [this]
    exact h.drop hk
  · obtain rfl : k = n := by omega
    rw [Nat.sub_self, List.drop_eq_nil_of_le (by rw [h.1]; exact Nat.le_refl _)]
    exact VsR.nil _ _
theorem TsR.hi {w : World} {a : Option Addr} {n c k : Nat} {vs : List BA} (h : TsR w a n vs) (hk : k ≤ n) (hc : n ≤ c) : TsR w (shA a k c 1) (n - k) (vs.drop k) := by
  by_cases h0 : k < n
  · obtain ⟨g, off, e, _, _⟩ := h.2 (by omega)
    subst e
    have : shA (some ⟨g, off, none⟩) k c 1 = some ⟨g, off + k * 1, none⟩ := by
      unfold shA
      rw [if_neg (by omega)]
      simp [Addr.add_lit]
    rw [this]
    exact h.drop hk
  · obtain rfl : k = n := by omega
    rw [Nat.sub_self, List.drop_eq_nil_of_le (by rw [h.1]; exact Nat.le_refl _)]
    exact TsR.nil _ _
/-- a row of texts of the law's own -/
def OT9 (B : Nat) (w : World) (v : Value) (n : Nat) (ts : List BA) : Prop := w.ownsRow B 9 1 v n (strs ts)
theorem OT9.len {B : Nat} {w : World} {v : Value} {n : Nat} {ts : List BA} (h : OT9 B w v n ts) : ts.length = n := by
  have := h.1
  unfold strs at this
  rw [List.length_map] at this
  omega
theorem OT9.read {B : Nat} {w : World} {v : Value} {n : Nat} {ts : List BA} (h : OT9 B w v n ts) : ∃ a c, v = .slice a n c ∧ TsR w a n ts ∧ CR w 9 a n (strs ts) ∧ n ≤ c := by
  have hl := h.len
  rcases h.2 with ⟨rfl, rfl⟩ | ⟨g, cap, cur, rfl, h1, h2, h3, h4, h5, h6⟩
  · obtain rfl : ts = [] := List.length_eq_zero_iff.1 hl
    exact ⟨none, 0, rfl, TsR.nil _ _, CR.nil _ _ _, Nat.le_refl _⟩
  · have hc : ∀ i v, (strs ts)[i]? = some v → w.cell? ⟨g, 0 + i, none⟩ = some v := fun i v hi => by
      have := h.cells (g := g) rfl i v hi
      rw [Addr.add_lit] at this
      exact this
    refine ⟨_, cap, rfl, ⟨hl, fun hp => ⟨g, 0, rfl, (Array.getElem?_eq_some_iff.1 h2).1, fun i s hs => hc i (.string s) ?_⟩⟩, ⟨by unfold strs; rw [List.length_map, hl], fun hp => ⟨g, 0, rfl, ⟨_, _, h2⟩, hc⟩⟩, h3⟩
    unfold strs
    rw [List.getElem?_map, hs]
    rfl
theorem OT9.same {B : Nat} {w w' : World} {v : Value} {n : Nat} {ts : List BA} (h : OT9 B w v n ts) (hs : ∀ g, v.ownBlock = some g → w'.heap[g]? = w.heap[g]?) : OT9 B w' v n ts := by
  refine ⟨h.1, ?_⟩
  rcases h.2 with h1 | ⟨g, cap, cur, rfl, h1, h2, h3⟩
  · exact .inl h1
  · exact .inr ⟨g, cap, cur, rfl, h1, (hs g rfl).trans h2, h3⟩
theorem OT9.blk {B : Nat} {w : World} {v : Value} {n : Nat} {ts : List BA} (h : OT9 B w v n ts) {g : Nat} (hg : v.ownBlock = some g) : B ≤ g ∧ g < w.heap.size := by
  rcases h.2 with ⟨rfl, _⟩ | ⟨g', cap, cur, rfl, h1, h2, _⟩
  · cases hg
  · cases hg
    exact ⟨h1, (Array.getElem?_eq_some_iff.1 h2).1⟩
theorem OT9.lo {B B' : Nat} {w : World} {v : Value} {n : Nat} {ts : List BA} (h : OT9 B w v n ts) (hB : B' ≤ B) : OT9 B' w v n ts := by
  refine ⟨h.1, ?_⟩
  rcases h.2 with h1 | ⟨g, cap, cur, h0, h1, h2⟩
  · exact .inl h1
  · exact .inr ⟨g, cap, cur, h0, by omega, h2⟩
theorem OT9.below {B : Nat} {w w' : World} {v : Value} {n : Nat} {ts : List BA} (h : OT9 B w v n ts) (hb : Below w.heap.size w w') : OT9 B w' v n ts := h.same fun g hg => hb.block g (h.blk hg).2
theorem OT9.nil (B : Nat) (w : World) : OT9 B w (.slice none 0 0) 0 [] := ⟨rfl, .inl ⟨rfl, rfl⟩⟩
theorem OV.same {B : Nat} {w w' : World} {v : Value} {n : Nat} {vs : List Vx} (h : OV B w v n vs) (hs : ∀ g, v.ownBlock = some g → w'.heap[g]? = w.heap[g]?) : OV B w' v n vs := by
  refine ⟨⟨h.1.1, ?_⟩, h.2⟩
  rcases h.1.2 with h1 | ⟨g, cap, cur, rfl, h1, h2, h3⟩
  · exact .inl h1
  · exact .inr ⟨g, cap, cur, rfl, h1, (hs g rfl).trans h2, h3⟩
theorem OV.own {B : Nat} {w : World} {v : Value} {n : Nat} {vs : List Vx} (h : OV B w v n vs) {g : Nat} (hg : v.ownBlock = some g) : B ≤ g ∧ g < w.heap.size := by
  rcases h.1.2 with ⟨rfl, _⟩ | ⟨g', cap, cur, rfl, h1, h2, _⟩
  · cases hg
  · cases hg
    exact ⟨h1, (Array.getElem?_eq_some_iff.1 h2).1⟩
/-- texts behind a row of one's own -/
theorem run_appT (w : World) (B : Nat) (ty : TypeId) (v : Value) (n : Nat) (xs : List BA) (o : Option Addr) (m c : Nat) (ts : List BA) (hown : OT9 B w v n xs) (hx : TsR w o m ts) (hn : n + m ≤ 1000000) (hB : B ≤ w.heap.size) :
    ∃ v' w', (Builtin.append_ #[36, 36] ty #[v, .slice o m c]).run Try.prog w = .ok v' w' ∧ OT9 B w' v' (n + m) (xs ++ ts) ∧ w.grownBy w' v.ownBlock := by
  obtain ⟨i, z, k0, k1, k2, k3, k4⟩ := one36.inf
  by_cases hp : 0 < m
  · obtain ⟨g, off, rfl, hg, hel⟩ := hx.2 hp
    obtain ⟨v', W', h1, h2, h3, _⟩ := run_append_own (P := Try.prog) w B 36 ty 9 i z 1 16 Try.underlying36 k0 k1 k2 k3 k4 (by omega) v n (strs xs) hown ⟨g, off, none⟩ m c (strs ts) (by unfold strs; rw [List.length_map, hx.1, Nat.mul_one]) (fun j u hj => by
      rw [Addr.add_lit]
      unfold strs at hj
      rw [List.getElem?_map] at hj
      obtain ⟨s, hs, rfl⟩ := Option.map_eq_some_iff.1 hj
      exact hel j s hs) (fun u hu => by unfold strs at hu; obtain ⟨s, _, rfl⟩ := List.mem_map.1 hu; rfl) (by unfold maxLen; omega) (by omega) hB
    refine ⟨v', W', h1, ?_, h3⟩
    unfold OT9
    have e : strs (xs ++ ts) = strs xs ++ strs ts := List.map_append
    rw [e]
    exact h2
  · obtain rfl : m = 0 := by omega
    have e : ts = [] := List.length_eq_zero_iff.1 hx.1
    subst e
    rw [List.append_nil, Nat.add_zero]
    obtain ⟨a, cap, rfl, _, _, hc⟩ := hown.read
    exact ⟨_, w, run_append_zero w 36 ty 9 i Try.underlying36 k0 a o n cap c hc, hown, World.grownBy.refl _ _⟩
end Go.Proofs.Ytjcihaohpbmogaa.Oct
