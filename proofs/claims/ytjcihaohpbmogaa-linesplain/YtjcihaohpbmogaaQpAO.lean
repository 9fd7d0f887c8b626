/-
  Layer 11 (lines): lives: the chapter's example.
  Layer 11 (lines): the laws' arguments.
-/
import Derived.Test.YtjcihaohpbmogaaQpBI
import Derived.Deep.Slices
import Derived.ProofKit
import Derived.SizedLaws
import Derived.ChangeSame
import Derived.OpenShut
import Derived.ShutString
import Derived.ChangeOld
import Derived.WideKeyArr2
/- Layer 11 (lines): lives: the chapter's example. -/
namespace Go.Proofs.Ytjcihaohpbmogaa.Oct
open Go.RowKit
set_option maxRecDepth 100000
set_option linter.unusedSimpArgs false
set_option linter.unusedVariables false
set_option linter.unusedSectionVars false

theorem addone {ps : List PL} {p : Nat} {G : Gm} (hps : G.ps = ps) (ht : tiedP ps) (hl : lenP ps) (up dn x : Vx) (hu : Vk up) (hd : Vk dn) (hx : x ∉ keysP ps) (hxe : isE x = false) (hup : (isE up || decide (up ∈ keysP ps)) = true) (hdn : (isE dn || decide (dn ∈ keysP ps)) = true) (hne : up ≠ dn) (hor : up = vTop ∨ dn = vBot) (hlen : ps.length ≤ 500) (s : BA) (CU CD : List Value) (hCU : up.cells = CU) (hCD : dn.cells = CD) :
    ∀ V r1 r2, GAt V p G → VsR V (some ⟨r1, 0, none⟩) 1 [x] → TsR V (some ⟨r2, 0, none⟩) 1 [s] → Calls Try.prog 22 #[.pointer (some ⟨p, 0, none⟩), .agg CU.toArray, .agg CD.toArray, .slice (some ⟨r1, 0, none⟩) 1 1, .slice (some ⟨r2, 0, none⟩) 1 1] V fun e w' => e = .returned (iv 0) ∧ ∃ G', GAfter V p G G' w' ∧ G'.ps = addP ps up dn [x] [s] := by
  intro V r1 r2 hG hv hs
  have hmb : mayBe [x] = true := by unfold mayBe; simp [idSet, Gr.join, hxe]
  have hk := keys_ps G
  rw [hps] at hk
  have hup' : G.has up = true := by unfold Gm.has; rw [hk]; exact hup
  have hdn' : G.has dn = true := by unfold Gm.has; rw [hk]; exact hdn
  have hE : G.addE true up dn [x] 1 = 0 := by
    have hls := ls_ps G
    rw [hps] at hls
    unfold Gm.addE
    rw [if_neg (by simp [hmb]), if_neg (by rw [hk]; simpa using hx), if_neg (by simp [hup', hdn']), if_neg (by simp), if_neg (by simp; omega)]
  refine (add_is hG (tied_ps (by rw [hps]; exact ht)) (len_ps (by rw [hps]; exact hl)) up dn hu hd _ 1 1 [x] hv (by omega) _ 1 1 [s] hs true ⟨fun _ => ⟨hup', hdn', hne, hor.elim .inl (fun h => .inr (.inl h))⟩, fun _ => rfl⟩ 0 hE CU CD hCU hCD).mono ?_
  rintro e w' ⟨rfl, G', hga, _, hps'⟩
  exact ⟨rfl, G', hga, by rw [hps', if_pos rfl, hps]⟩
theorem wpList_bsW {ops : Array Oper} {rest : List Oper} {o : Oper} {a : Act} {w : World} {Q : Exit → Act → World → Prop} (hw : Region.wanted o (yielded ops a.tmps) = true) (T : TypeId) (n : Nat) (xs : Array (Nat × Operand)) (hop : o.op = Op.buildSlice T n xs) (us : Array (Nat × Value)) (hx : (xs.map fun (i, x) => (i, a.eval x)) = us) (r : Value) (W' : World) (hr : (Instr.buildSlice T n us).run Try.prog w = .ok r W')
    (hK : wpList Try.prog ops Q rest (a.put o.dst r) W') : wpList Try.prog ops Q (o :: rest) a w := by
  subst hx
  refine Go.BigFrame.wpList_want hw fun K' hK' => ?_
  unfold Oper.wp execOp
  simp only [hop, hr, Sem.run_bind, Sem.run_pure, Result.andThen_ok]
  exact hK' _ _ hK
theorem bs94 (s t u v : BA) (W : World) : (Instr.buildSlice 36 4 #[(0, .string s), (1, .string t), (2, .string u), (3, .string v)]).run Try.prog W = .ok (.slice (some ⟨W.heap.size, 0, none⟩) 4 4) (W.alloc (.cells (strs [s, t, u, v]).toArray 9)) := by kernel_rfl
theorem cr_strs (w : World) (l : List BA) : CR (w.alloc (.cells (strs l).toArray 9)) 9 (some ⟨w.heap.size, 0, none⟩) l.length (strs l) := by
  have hb : Blk (w.alloc (.cells (strs l).toArray 9)) w.heap.size 9 (strs l) := by simpa using Blk.new w (strs l).toArray 9
  exact ⟨by simp [strs], fun _ => ⟨_, 0, rfl, ⟨_, _, hb⟩, fun i v hi => by rw [Nat.zero_add]; exact hb.cell hi⟩⟩
set_option maxHeartbeats 4000000 in
theorem lives_is (w : World) : Calls Try.prog 10 #[] w fun e w' => e = .returned (.bool true) ∧ Below w.heap.size w w' := by
  obtain ⟨Z, hZ, HZ⟩ := zval34
  obtain ⟨CT, hCT⟩ : ∃ C, vTop.cells = C := ⟨_, rfl⟩
  obtain ⟨CB, hCB⟩ : ∃ C, vBot.cells = C := ⟨_, rfl⟩
  have HT : Hid (vTop.cells = CT ∧ CT.length = 33 ∧ (∀ v ∈ CT, v.oneCell' = true) ∧ (Try.prog.info? 34).map (·.size) = some CT.length) := ⟨hCT, by rw [← hCT]; exact Vx.len vTop_ok, by rw [← hCT]; exact Vx.one _, by rw [← hCT]; exact info34 vTop_ok⟩
  have HB : Hid (vBot.cells = CB ∧ CB.length = 33 ∧ (∀ v ∈ CB, v.oneCell' = true) ∧ (Try.prog.info? 34).map (·.size) = some CB.length) := ⟨hCB, by rw [← hCB]; exact Vx.len vBot_ok, by rw [← hCB]; exact Vx.one _, by rw [← hCB]; exact info34 vBot_ok⟩
  have hb1 := built34
  have hb2 := built34b
  rw [hCT] at hb1
  rw [hCB] at hb2
  obtain ⟨x5, h5⟩ : ∃ x, idv 5 = x := ⟨_, rfl⟩
  obtain ⟨x6, h6⟩ : ∃ x, idv 6 = x := ⟨_, rfl⟩
  obtain ⟨x7, h7⟩ : ∃ x, idv 7 = x := ⟨_, rfl⟩
  obtain ⟨x8, h8⟩ : ∃ x, idv 8 = x := ⟨_, rfl⟩
  have H5 : Hid (idv 5 = x5) := h5
  have H6 : Hid (idv 6 = x6) := h6
  have H7 : Hid (idv 7 = x7) := h7
  have H8 : Hid (idv 8 = x8) := h8
  have HK5 : Hid (Vk x5) := by rw [← h5]; exact idv_k 5 (by decide)
  have HK6 : Hid (Vk x6) := by rw [← h6]; exact idv_k 6 (by decide)
  have HK7 : Hid (Vk x7) := by rw [← h7]; exact idv_k 7 (by decide)
  have HK8 : Hid (Vk x8) := by rw [← h8]; exact idv_k 8 (by decide)
  obtain ⟨C5, hc5⟩ : ∃ C, x5.cells = C := ⟨_, rfl⟩
  obtain ⟨C6, hc6⟩ : ∃ C, x6.cells = C := ⟨_, rfl⟩
  obtain ⟨C7, hc7⟩ : ∃ C, x7.cells = C := ⟨_, rfl⟩
  obtain ⟨C8, hc8⟩ : ∃ C, x8.cells = C := ⟨_, rfl⟩
  have HC5 : Hid (x5.cells = C5) := hc5
  have HC6 : Hid (x6.cells = C6) := hc6
  have HC7 : Hid (x7.cells = C7) := hc7
  have HC8 : Hid (x8.cells = C8) := hc8
  have HI5 : Hid (∀ W, Calls Try.prog 29 #[iv 5] W fun e w' => e = .returned (.agg C5.toArray) ∧ Below W.heap.size W w') := fun W => id_is W 5 C5 (by rw [h5]; exact hc5)
  have HI6 : Hid (∀ W, Calls Try.prog 29 #[iv 6] W fun e w' => e = .returned (.agg C6.toArray) ∧ Below W.heap.size W w') := fun W => id_is W 6 C6 (by rw [h6]; exact hc6)
  have HI7 : Hid (∀ W, Calls Try.prog 29 #[iv 7] W fun e w' => e = .returned (.agg C7.toArray) ∧ Below W.heap.size W w') := fun W => id_is W 7 C7 (by rw [h7]; exact hc7)
  have HI8 : Hid (∀ W, Calls Try.prog 29 #[iv 8] W fun e w' => e = .returned (.agg C8.toArray) ∧ Below W.heap.size W w') := fun W => id_is W 8 C8 (by rw [h8]; exact hc8)
  clear hCT hCB h5 h6 h7 h8 hc5 hc6 hc7 hc8
  go_enter Try.func10, Try.ntmps10
  go_wp2_with fail
  refine (new_is w).mono ?_
  rintro e W1 ⟨p, G0, rfl, HG, HB1⟩
  go_wp2_with (first
    | (with_reducible change wpList _ _ _ ({ dst := some 9, op := _, type := _, pos := _, after := _, guard := _ } :: _) _ _
       refine wpList_built rfl 34 _ rfl CT.toArray (by rw [← hb1]; first | (simp; done) | (simp; rfl)) ?_)
    | (with_reducible change wpList _ _ _ ({ dst := some 10, op := _, type := _, pos := _, after := _, guard := _ } :: _) _ _
       refine wpList_built rfl 34 _ rfl CB.toArray (by rw [← hb2]; first | (simp; done) | (simp; rfl)) ?_)
    | (with_reducible change wpList _ _ _ ({ dst := none, op := Op.store 34 _ _, type := _, pos := _, after := _, guard := _ } :: _) _ _
       refine Hid.out ?_)
    | fail)
  show wpList _ _ _ _ _ _
  clear hb1 hb2 hZ
  obtain ⟨d2, hd2⟩ : ∃ d, W1.heap.size = d := ⟨_, rfl⟩
  obtain ⟨W2, hW2⟩ : ∃ W, W1.alloc (.cells Z.toArray 34) = W := ⟨_, rfl⟩
  have k2 : Blk W2 d2 34 Z := by rw [← hW2, ← hd2]; exact Blk.new W1 _ _
  have b2 : Below W1.heap.size W1 W2 := by rw [← hW2]; exact below_al _ _
  obtain ⟨d3, hd3⟩ : ∃ d, W2.heap.size = d := ⟨_, rfl⟩
  obtain ⟨W3, hW3⟩ : ∃ W, W2.alloc (.cells Z.toArray 34) = W := ⟨_, rfl⟩
  have k3 : Blk W3 d3 34 Z := by rw [← hW3, ← hd3]; exact Blk.new W2 _ _
  have b3 : Below W2.heap.size W2 W3 := by rw [← hW3]; exact below_al _ _
  have hs3 : W2.heap.size = W1.heap.size + 1 := by rw [← hW2]; simp
  have e3 : d2 + 1 = d3 := by rw [← hd2, ← hs3]; exact hd3
  have H1 : Hid (Below w.heap.size w W3 ∧ Blk W3 d2 34 Z ∧ Blk W3 d3 34 Z ∧ GAt W3 p G0 ∧ G0.ps = [] ∧ (∀ k ∈ G0.bl p, w.heap.size ≤ k) ∧ d2 < d3 ∧ W1.heap.size = d2 ∧ w.heap.size ≤ d2) := by
    refine ⟨below_tr HB1.out (below_tr b2 b3), k2.below b3 k2.lt, k3, HG.out.1.below (below_tr b2 b3), HG.out.2.1, HG.out.2.2, ?_, hd2, by rw [← hd2]; exact HB1.out.size⟩
    rw [← hd3]
    exact k2.lt
  have HNE : Hid (¬ d2 ∈ G0.bl p ∧ ¬ d3 ∈ G0.bl p) := by
    have hlt : ∀ k ∈ G0.bl p, k < W1.heap.size := HG.out.1.hp.lt
    have := H1.out.2.2.2.2.2.2.1
    have := H1.out.2.2.2.2.2.2.2.1
    exact ⟨fun h => by have := hlt _ h; omega, fun h => by have := hlt _ h; omega⟩
  simp only [hW2, hW3, hd2, hd3, e3]
  clear k2 b2 k3 b3 hW2 hW3 hd2 hd3 hs3 e3 HG HB1
  refine wpList_store_blk rfl 34 (.tmp 2) (.tmp 9) rfl d2 0 34 Z CT rfl rfl H1.out.2.1 (by rw [HT.out.2.1, HZ.out]; exact Nat.le_refl _) HT.out.2.2.2 HT.out.2.2.1 ?_
  intro W4 r1 r2
  have H2 : Hid (Below w.heap.size w W4 ∧ Blk W4 d2 34 CT ∧ Blk W4 d3 34 Z ∧ GAt W4 p G0) := by
    have hg := r2.out
    refine ⟨H1.out.1.grown hg H1.out.1.size (fun k hk => ?_), blk_all r1.out (by rw [HT.out.2.1, HZ.out]), (hg.block d3 H1.out.2.2.1.lt (fun e => ?_)).trans H1.out.2.2.1, H1.out.2.2.2.1.keep (Keep.grown (S := fun k => k = d2) hg rfl) (fun k hk e => HNE.out.1 (e ▸ hk))⟩
    · have e := Option.some.inj hk
      have := H1.out.2.2.2.2.2.2.2.2
      omega
    · have e := Option.some.inj e
      have := H1.out.2.2.2.2.2.2.1
      omega
  clear r1 r2
  go_wp2_with (first
    | (with_reducible change wpList _ _ _ ({ dst := none, op := Op.store 34 _ _, type := _, pos := _, after := _, guard := _ } :: _) _ _
       refine Hid.out ?_)
    | fail)
  show wpList _ _ _ _ _ _
  refine wpList_store_blk rfl 34 (.tmp 3) (.tmp 10) rfl d3 0 34 Z CB rfl rfl H2.out.2.2.1 (by rw [HB.out.2.1, HZ.out]; exact Nat.le_refl _) HB.out.2.2.2 HB.out.2.2.1 ?_
  intro W5 r1 r2
  have H3 : Hid (Below w.heap.size w W5 ∧ Blk W5 d2 34 CT ∧ Blk W5 d3 34 CB ∧ GAt W5 p G0 ∧ G0.ps = [] ∧ ∀ k ∈ G0.bl p, w.heap.size ≤ k) := by
    have hg := r2.out
    have h9 := H1.out.2.2.2.2.2.2
    refine ⟨H2.out.1.grown hg H2.out.1.size (fun k hk => ?_), (hg.block d2 H2.out.2.1.lt (fun e => ?_)).trans H2.out.2.1, blk_all r1.out (by rw [HB.out.2.1, HZ.out]), H2.out.2.2.2.keep (Keep.grown (S := fun k => k = d3) hg rfl) (fun k hk e => HNE.out.2 (e ▸ hk)), H1.out.2.2.2.2.1, H1.out.2.2.2.2.2.1⟩
    · have e := Option.some.inj hk
      omega
    · have e := Option.some.inj e
      omega
  clear r1 r2 H1 H2
  go_wp2_with fail
  have HADD1 := hid_of (addone (ps := []) (p := p) (G := G0) H3.out.2.2.2.2.1 ⟨by simp [keysP], by simp⟩ (by intro q hq; simp at hq) vTop vBot x5 vTop_k vBot_k (by simp [keysP]) (by rw [← H5.out]; decide) (by decide) (by decide) (by decide) (.inl rfl) (by simp) sa CT CB HT.out.1 HB.out.1)
  refine lv3 (x := x5) (s := sa) H3.out.2.2.2.1 HK5 HC5 ⟨H3.out.2.1.lt, HNE.out.1⟩ H3.out.2.1.range0 HT.out.2.2.2 ⟨H3.out.2.2.1.lt, HNE.out.2⟩ H3.out.2.2.1.range0 HB.out.2.2.2 HI5 rfl HADD1 ?_
  clear HADD1
  intro V1 s1 s2 G1 hk hx
  have H4g : Hid (Below w.heap.size w V1 ∧ Blk V1 d2 34 CT ∧ Blk V1 d3 34 CB ∧ GAt V1 p G1 ∧ G1.ps = q1p ∧ (∀ k ∈ G1.bl p, w.heap.size ≤ k) ∧ (¬ d2 ∈ G1.bl p ∧ ¬ d3 ∈ G1.bl p)) := by
    have hsz := H3.out.1.size
    refine ⟨H3.out.1.trans (hk.toBelow hsz (fun k hk => H3.out.2.2.2.2.2 k hk)), hk.blk H3.out.2.1 HNE.out.1, hk.blk H3.out.2.2.1 HNE.out.2, hx.1, by rw [hx.2.1]; show addP [] vTop vBot [x5] [sa] = _; rw [← H5.out]; rfl, fun k hk => ?_, fun hk => ?_, fun hk => ?_⟩
    · rcases hx.2.2 k hk with h | h
      · exact H3.out.2.2.2.2.2 k h
      · exact Nat.le_trans hsz h
    · rcases hx.2.2 d2 hk with h | h
      · exact HNE.out.1 h
      · have := H3.out.2.1.lt; omega
    · rcases hx.2.2 d3 hk with h | h
      · exact HNE.out.2 h
      · have := H3.out.2.2.1.lt; omega
  clear hk hx H3
  go_wp2_with fail
  have HADD2 := hid_of (addone (ps := q1p) (p := p) (G := G1) H4g.out.2.2.2.2.1 tied1 lens.1 vTop x5 x6 vTop_k HK5.out (by rw [← H6.out]; decide +kernel) (by rw [← H6.out]; decide) (by decide +kernel) (by rw [← H5.out]; decide +kernel) (by rw [← H5.out]; decide +kernel) (.inl rfl) (by decide +kernel) sb CT C5 HT.out.1 HC5.out)
  refine lv4 (x := x6) (s := sb) H4g.out.2.2.2.1 HK6 HC6 ⟨H4g.out.2.1.lt, H4g.out.2.2.2.2.2.2.1⟩ H4g.out.2.1.range0 HT.out.2.2.2 HI5 HI6 rfl HADD2 ?_
  clear HADD2
  intro V2 s1 s2 G2 hk hx
  have H5g : Hid (Below w.heap.size w V2 ∧ Blk V2 d2 34 CT ∧ Blk V2 d3 34 CB ∧ GAt V2 p G2 ∧ G2.ps = q2p ∧ (∀ k ∈ G2.bl p, w.heap.size ≤ k) ∧ (¬ d2 ∈ G2.bl p ∧ ¬ d3 ∈ G2.bl p)) := by
    have hsz := H4g.out.1.size
    refine ⟨H4g.out.1.trans (hk.toBelow hsz (fun k hk => H4g.out.2.2.2.2.2.1 k hk)), hk.blk H4g.out.2.1 H4g.out.2.2.2.2.2.2.1, hk.blk H4g.out.2.2.1 H4g.out.2.2.2.2.2.2.2, hx.1, by rw [hx.2.1]; show addP q1p vTop x5 [x6] [sb] = _; rw [← H5.out, ← H6.out]; rfl, fun k hk => ?_, fun hk => ?_, fun hk => ?_⟩
    · rcases hx.2.2 k hk with h | h
      · exact H4g.out.2.2.2.2.2.1 k h
      · exact Nat.le_trans hsz h
    · rcases hx.2.2 d2 hk with h | h
      · exact H4g.out.2.2.2.2.2.2.1 h
      · have := H4g.out.2.1.lt; omega
    · rcases hx.2.2 d3 hk with h | h
      · exact H4g.out.2.2.2.2.2.2.2 h
      · have := H4g.out.2.2.1.lt; omega
  clear hk hx H4g
  go_wp2_with fail
  have HADD3 := hid_of (addone (ps := q2p) (p := p) (G := G2) H5g.out.2.2.2.2.1 tied2 lens.2.1 x5 vBot x7 HK5.out vBot_k (by rw [← H7.out]; decide +kernel) (by rw [← H7.out]; decide) (by rw [← H5.out]; decide +kernel) (by decide +kernel) (by rw [← H5.out]; decide +kernel) (.inr rfl) (by decide +kernel) sc C5 CB HC5.out HB.out.1)
  refine lv5 (x := x7) (s := sc) H5g.out.2.2.2.1 HK7 HC7 ⟨H5g.out.2.2.1.lt, H5g.out.2.2.2.2.2.2.2⟩ H5g.out.2.2.1.range0 HB.out.2.2.2 HI5 HI7 rfl HADD3 ?_
  clear HADD3
  intro V3 s1 s2 G3 hk hx
  have H6g : Hid (Below w.heap.size w V3 ∧ Blk V3 d2 34 CT ∧ Blk V3 d3 34 CB ∧ GAt V3 p G3 ∧ G3.ps = q3p ∧ (∀ k ∈ G3.bl p, w.heap.size ≤ k) ∧ (¬ d2 ∈ G3.bl p ∧ ¬ d3 ∈ G3.bl p)) := by
    have hsz := H5g.out.1.size
    refine ⟨H5g.out.1.trans (hk.toBelow hsz (fun k hk => H5g.out.2.2.2.2.2.1 k hk)), hk.blk H5g.out.2.1 H5g.out.2.2.2.2.2.2.1, hk.blk H5g.out.2.2.1 H5g.out.2.2.2.2.2.2.2, hx.1, by rw [hx.2.1]; show addP q2p x5 vBot [x7] [sc] = _; rw [← H5.out, ← H7.out]; rfl, fun k hk => ?_, fun hk => ?_, fun hk => ?_⟩
    · rcases hx.2.2 k hk with h | h
      · exact H5g.out.2.2.2.2.2.1 k h
      · exact Nat.le_trans hsz h
    · rcases hx.2.2 d2 hk with h | h
      · exact H5g.out.2.2.2.2.2.2.1 h
      · have := H5g.out.2.1.lt; omega
    · rcases hx.2.2 d3 hk with h | h
      · exact H5g.out.2.2.2.2.2.2.2 h
      · have := H5g.out.2.2.1.lt; omega
  clear hk hx H5g
  go_wp2_with fail
  have HADD4 := hid_of (addone (ps := q3p) (p := p) (G := G3) H6g.out.2.2.2.2.1 tied3 lens.2.2.1 x5 vBot x8 HK5.out vBot_k (by rw [← H8.out]; decide +kernel) (by rw [← H8.out]; decide) (by rw [← H5.out]; decide +kernel) (by decide +kernel) (by rw [← H5.out]; decide +kernel) (.inr rfl) (by decide +kernel) sd C5 CB HC5.out HB.out.1)
  refine lv6 (x := x8) (s := sd) H6g.out.2.2.2.1 HK8 HC8 ⟨H6g.out.2.2.1.lt, H6g.out.2.2.2.2.2.2.2⟩ H6g.out.2.2.1.range0 HB.out.2.2.2 HI5 HI8 rfl HADD4 ?_
  clear HADD4
  intro V4 s1 s2 G4 hk hx
  have H7g : Hid (Below w.heap.size w V4 ∧ Blk V4 d2 34 CT ∧ Blk V4 d3 34 CB ∧ GAt V4 p G4 ∧ G4.ps = q4p ∧ (∀ k ∈ G4.bl p, w.heap.size ≤ k) ∧ (¬ d2 ∈ G4.bl p ∧ ¬ d3 ∈ G4.bl p)) := by
    have hsz := H6g.out.1.size
    refine ⟨H6g.out.1.trans (hk.toBelow hsz (fun k hk => H6g.out.2.2.2.2.2.1 k hk)), hk.blk H6g.out.2.1 H6g.out.2.2.2.2.2.2.1, hk.blk H6g.out.2.2.1 H6g.out.2.2.2.2.2.2.2, hx.1, by rw [hx.2.1]; show addP q3p x5 vBot [x8] [sd] = _; rw [← H5.out, ← H8.out]; rfl, fun k hk => ?_, fun hk => ?_, fun hk => ?_⟩
    · rcases hx.2.2 k hk with h | h
      · exact H6g.out.2.2.2.2.2.1 k h
      · exact Nat.le_trans hsz h
    · rcases hx.2.2 d2 hk with h | h
      · exact H6g.out.2.2.2.2.2.2.1 h
      · have := H6g.out.2.1.lt; omega
    · rcases hx.2.2 d3 hk with h | h
      · exact H6g.out.2.2.2.2.2.2.2 h
      · have := H6g.out.2.2.1.lt; omega
  clear hk hx H6g
  go_wp2_with fail
  have HP4 : Hid (G4.ps = q4p) := H7g.out.2.2.2.2.1
  have HAC := hid_of (acy_ps (G := G4) (F := F4) (by rw [H7g.out.2.2.2.2.1]; exact acy4))
  refine (text_is H7g.out.2.2.2.1 F4 HAC.out).mono ?_
  rintro e U1 ⟨ta, tn, tc, vs, rfl, HTX, HB2⟩
  have K1 : Hid (Below w.heap.size w U1 ∧ GAt U1 p G4 ∧ CR U1 9 ta tn (strs [sb, sa, sc, sd]) ∧ tn = 4) := by
    have hr := HTX.out.1
    have hc := HTX.out.2
    rw [rise_ps, H7g.out.2.2.2.2.1] at hr
    rw [shown_ps, H7g.out.2.2.2.2.1, riseP_one hr rise4, txs4] at hc
    exact ⟨below_tr H7g.out.1 HB2.out, H7g.out.2.2.2.1.below HB2.out, hc, hc.1.symm⟩
  clear HTX HB2
  go_wp2_with (first
    | (with_reducible change wpList _ _ _ ({ dst := some 56, op := _, type := _, pos := _, after := _, guard := _ } :: _) _ _
       refine Hid.out ?_)
    | fail)
  show wpList _ _ _ _ _ _
  obtain ⟨U2, hU2⟩ : ∃ U, U1.alloc (.cells (strs [sb, sa, sc, sd]).toArray 9) = U := ⟨_, rfl⟩
  obtain ⟨z2, hz2⟩ : ∃ z, U1.heap.size = z := ⟨_, rfl⟩
  have K2 : Hid (Below w.heap.size w U2 ∧ GAt U2 p G4 ∧ CR U2 9 ta tn (strs [sb, sa, sc, sd]) ∧ tn = 4 ∧ CR U2 9 (some ⟨z2, 0, none⟩) 4 (strs [sb, sa, sc, sd])) := by
    have hb : Below U1.heap.size U1 U2 := by rw [← hU2]; exact below_al _ _
    exact ⟨below_tr K1.out.1 hb, K1.out.2.1.below hb, K1.out.2.2.1.below hb, K1.out.2.2.2, by rw [← hU2, ← hz2]; exact cr_strs U1 [sb, sa, sc, sd]⟩
  refine wpList_bsW (by rfl) 36 4 _ rfl #[(0, .string sb), (1, .string sa), (2, .string sc), (3, .string sd)] (by simp only [List.map_toArray, List.map_cons, List.map_nil]; rfl) (.slice (some ⟨U1.heap.size, 0, none⟩) 4 4) (U1.alloc (.cells (strs [sb, sa, sc, sd]).toArray 9)) (bs94 sb sa sc sd U1) ?_
  rw [hU2, hz2]
  clear hU2 hz2 K1 H7g
  go_wp2_with fail
  refine (texts_is U2 ta (some ⟨z2, 0, none⟩) tn 4 tc 4 [sb, sa, sc, sd] [sb, sa, sc, sd] K2.out.2.2.1 K2.out.2.2.2.2 (by have := K2.out.2.2.2.1; omega) (by omega) true (by simp)).mono ?_
  rintro e U3 ⟨rfl, hb⟩
  have K3 : Hid (Below w.heap.size w U3 ∧ GAt U3 p G4 ∧ G4.ps = q4p) := ⟨below_tr K2.out.1 hb, K2.out.2.1.below hb, HP4.out⟩
  clear hb K2
  go_wp2_with fail
  refine (conflicts_is K3.out.2.1 F4 HAC.out).mono ?_
  rintro e U4 ⟨vs', rfl, HR4, HB4⟩
  have K4 : Hid (Below w.heap.size w U4 ∧ GAt U4 p G4) := ⟨below_tr K3.out.1 HB4.out, K3.out.2.1.below HB4.out⟩
  have hcf : G4.conf vs' = 1 := by
    have hr := HR4.out
    rw [rise_ps, K3.out.2.2] at hr
    rw [conf_ps, K3.out.2.2, riseP_one hr rise4, conf4]
  rw [hcf]
  clear HR4 HB4 hcf
  go_wp2_with fail
  refine (len_is K4.out.2).mono ?_
  rintro e U5 ⟨rfl, rfl⟩
  have hl4 : (G4.ls.length : Int) = 4 := by rw [ls_ps, K3.out.2.2, len4]; rfl
  rw [hl4]
  clear hl4
  go_wp2
  go_ret
  exact ⟨rfl, K4.out.1⟩
end Go.Proofs.Ytjcihaohpbmogaa.Oct

/- Layer 11 (lines): the laws' arguments. -/
namespace Go.Proofs.Ytjcihaohpbmogaa.Oct
open Go.RowKit Go.ChangeShapes Go.WideShapes Go.ChangeAt Go.Deep
set_option maxRecDepth 100000
set_option linter.unusedSimpArgs false
set_option linter.unusedVariables false

instance : Inhabited Vx := ⟨vTop⟩
theorem cut_at (cs : List Value) (a n b : Nat) (h : a + n = b) : cs.drop a = (cs.drop a).take n ++ cs.drop b := by
  subst h
  rw [← List.drop_drop, List.take_append_drop]
theorem cut_last (cs : List Value) (a n : Nat) (h : cs.length = a + n) : cs.drop a = (cs.drop a).take n := by
  rw [List.take_of_length_le (by rw [List.length_drop]; omega)]
section
variable {H : Type} {enc : TypeId × Value → H} {w : World}

theorem mem_weightsAll {P : Program} {e : TypeId} {d : DataW H} {n : Nat} (hn : n ∈ d.weights P e) : ∀ {ds : List (DataW H)}, d ∈ ds → n ∈ DataW.weightsAll P e ds
  | [], h => by cases h
  | d0 :: r, h => by
    simp only [DataW.weightsAll, List.mem_append]
    rcases List.mem_cons.1 h with rfl | h
    · exact .inl hn
    · exact .inr (mem_weightsAll hn h)
/-- a hash that was read -/
theorem view_hash {n : Nat} {cs : List Value} {x : DataW H × List MemPlace} (h : DataW.trod enc Try.prog w 0 (fun _ => true) true n 32 cs = some x) : ∃ hh : Hs, hh.length = 32 ∧ cs = U hh := by
  obtain ⟨xs, m, _, _, hl, hxl, hf⟩ := DataW.trod_array Try.underlying32 h
  have hl' : cs.length = 32 := by rw [hl]; kernel_rfl
  have c5 : Try.prog.cellsOf 5 = 1 := by kernel_rfl
  rw [c5] at hf
  have each : ∀ i, i < 32 → ∃ c : UInt8, cs[i]? = some (.int .u8 (c.toNat : Int)) := by
    intro i hi
    have h1 := hf i hi
    rw [List.getElem?_eq_getElem (by omega)] at h1
    obtain ⟨k, hk, _, hw⟩ := DataW.trod_int Try.underlying5 h1
    have hb := bounds_u8 hw
    refine ⟨UInt8.ofNat k.toNat, ?_⟩
    have : cs[i]? = some (.int .u8 k) := by
      rw [Nat.mul_one] at hk
      have := congrArg (·[0]?) hk
      simpa [List.getElem?_take, List.getElem?_drop] using this
    rw [this, UInt8.toNat_ofNat']
    congr 2
    omega
  obtain ⟨G, hG⟩ := choose_lt each
  refine ⟨(List.range 32).map G, by simp, ?_⟩
  apply List.ext_getElem?
  intro i
  by_cases hi : i < 32
  · rw [hG i hi]; simp [U, hi]
  · rw [List.getElem?_eq_none (by omega), List.getElem?_eq_none (by simp [U]; omega)]
/-- cells that were read are a range -/
theorem range_of_cells {b off n : Nat} {cs : List Value} (h : w.cells? 0 ⟨b, off, none⟩ n = some cs) : w.rangeAt b off cs := by
  obtain ⟨_, hlen, hcell⟩ := World.cells?_some h
  intro j v hj
  have hlt := (List.getElem?_eq_some_iff.1 hj).1
  have := hcell j (by omega)
  rw [Addr.add_lit] at this
  rw [← hj]
  exact this
theorem view_vx {fuel : Nat} {cs : List Value} {x : DataW H × List MemPlace} (h : DataW.trod enc Try.prog w 0 (fun _ => true) true fuel 34 cs = some x) :
    ∃ v : Vx, Vk v ∧ cs = v.cells := by
  obtain ⟨ys, k, hk, hxy, hcl, hxl, hf⟩ := DataW.trod_struct Try.underlying34 h
  have hcl' : cs.length = 33 := by rw [hcl]; kernel_rfl
  have hxl' : ys.length = 2 := hxl
  obtain ⟨y0, y1, rfl⟩ : ∃ y0 y1, ys = [y0, y1] := by
    rcases ys with _ | ⟨y0, _ | ⟨y1, _ | ⟨z, l⟩⟩⟩ <;> simp at hxl'
    exact ⟨y0, y1, rfl⟩
  have g0 := hf 0 _ rfl
  change DataW.trod enc Try.prog w 0 _ true k 32 ((cs.drop 0).take (Try.prog.cellsOf 32)) = some y0 at g0
  rw [show Try.prog.cellsOf 32 = 32 by kernel_rfl] at g0
  obtain ⟨f0, b0, e0⟩ := view_hash g0
  have g1 := hf 1 _ rfl
  change DataW.trod enc Try.prog w 0 _ true k 3 ((cs.drop 32).take (Try.prog.cellsOf 3)) = some y1 at g1
  rw [show Try.prog.cellsOf 3 = 1 by kernel_rfl] at g1
  obtain ⟨f1, e1, _, b1⟩ := DataW.trod_int Try.underlying3 g1
  have hcs : cs = (cs.drop 0).take 32 ++ ((cs.drop 32).take 1) :=
    (List.drop_zero (l := cs)).symm.trans ((cut_at cs 0 32 32 rfl).trans (congrArg ((cs.drop 0).take 32 ++ ·) (cut_last cs 32 1 hcl')))
  rw [e0, e1] at hcs
  exact ⟨⟨f0, f1⟩, ⟨b0, b1⟩, hcs⟩
theorem view_vs {fuel : Nat} {cs : List Value} {x : DataW H × List MemPlace} (h : DataW.trod enc Try.prog w 0 (fun _ => true) true fuel 35 cs = some x) (hx : ∀ n ∈ x.1.weights Try.prog 35, n ≤ reachBytes) :
    ∃ a len cap hs, cs = [.slice a len cap] ∧ VsR w a len hs ∧ len ≤ cap ∧ cap ≤ maxLen ∧ len ≤ 140737488355328 := by
  rcases open_slice Try.underlying35 h with ⟨hcs, _⟩ | ⟨ad, len, cap, m, n, D, Pl, hcs, _, hl, hm, hmm, hd, hr⟩
  · exact ⟨none, 0, 0, [], hcs, ⟨rfl, by simp, fun h => absurd h (by omega)⟩, Nat.le_refl _, by unfold maxLen; omega, by omega⟩
  · refine ⟨some ad, len, cap, ?_⟩
    simp at hmm
    have ce : Try.prog.cellsOf 34 = 33 := by kernel_rfl
    rw [ce] at hr
    have hsp : 0 < len → ad.spot = none := fun hp => by
      obtain ⟨cs, h1, _⟩ := hr 0 (by omega)
      obtain ⟨_, hlen, hcell⟩ := World.cells?_some h1
      have h0 := hcell 0 (by omega)
      rw [List.getElem?_eq_getElem (by omega)] at h0
      have := World.cell?_spot h0
      simpa [Addr.add] using this
    have each : ∀ i, i < len → ∃ x   : Vx, Vk x ∧ ∃ b off, ad = ⟨b, off, none⟩ ∧ b < w.heap.size ∧ w.rangeAt b (off + i * 33) x.cells := by
      intro i hi
      obtain ⟨cs, h1, h2⟩ := hr i (by omega)
      obtain ⟨hh, hhl, rfl⟩ := view_vx h2
      obtain ⟨b, off, spot⟩ := ad
      have hspot : spot = none := hsp (by omega)
      subst hspot
      rw [Addr.add_lit] at h1
      have hra := range_of_cells h1
      refine ⟨hh, hhl, b, off, rfl, ?_, hra⟩
      have e0 := hra 32 _ (Vx.line hhl.1)
      have := World.block_lt_of_cell? w _ e0
      simpa using this
    obtain ⟨G, hG⟩ := choose_lt each
    refine ⟨(List.range len).map G, hcs, ⟨by simp, ?_, fun hp => ?_⟩, hl, hm, ?_⟩
    · intro h hh
      obtain ⟨i, hi, rfl⟩ := List.mem_map.1 hh
      exact (hG i (List.mem_range.1 hi)).1
    · obtain ⟨_, b, off, e1, e2, _⟩ := hG 0 hp
      refine ⟨b, off, by rw [e1], e2, fun i x hi => ?_⟩
      have hlt : i < len := by
        have := (List.getElem?_eq_some_iff.1 hi).1
        simpa using this
      have e : G i = x := by simpa [List.getElem?_map, List.getElem?_range hlt] using hi
      subst e
      obtain ⟨_, b', off', f1, _, f3⟩ := hG i hlt
      rw [e1] at f1
      cases f1
      exact f3
    · have hmem : (len + (m - len)) * Try.prog.bytesOf 34 ∈ x.1.weights Try.prog 35 := by
        rw [hd]
        simp [DataW.weights, Try.underlying35]
      have := hx _ hmem
      rw [show Try.prog.bytesOf 34 = 40 by kernel_rfl] at this
      simp only [reachBytes] at this
      omega
theorem fld_str {n : Nat} {cs : List Value} {x : DataW H × List MemPlace} (h : DataW.trod enc Try.prog w 0 (fun _ => true) true n 9 cs = some x) (hx : ∀ k ∈ x.1.weights Try.prog 9, k ≤ reachBytes) :
    ∃ s : ByteArray, cs = [.string s] ∧ s.size ≤ 140737488355328 := by
  obtain ⟨s, hs, hd, _⟩ := DataW.trod_string Try.underlying9 h
  refine ⟨s, by simpa using hs, ?_⟩
  have hmem : s.size ∈ x.1.weights Try.prog 9 := by
    rw [hd]
    simp [DataW.weights]
  have := hx _ hmem
  simp only [reachBytes] at this
  omega
theorem view_strs {fuel : Nat} {cs : List Value} {x : DataW H × List MemPlace} (h : DataW.trod enc Try.prog w 0 (fun _ => true) true fuel 36 cs = some x) (hx : ∀ n ∈ x.1.weights Try.prog 36, n ≤ reachBytes) :
    ∃ a len cap l, cs = [.slice a len cap] ∧ TsR w a len l ∧ (∀ t ∈ l, t.size ≤ 140737488355328) ∧ len ≤ cap ∧ cap ≤ maxLen ∧ len ≤ 140737488355328 := by
  rcases open_slice Try.underlying36 h with ⟨hcs, _⟩ | ⟨ad, len, cap, m, n, D, Pl, hcs, _, hl, hm, hmm, hd, hr⟩
  · exact ⟨none, 0, 0, [], hcs, ⟨rfl, fun h => absurd h (by omega)⟩, by simp, Nat.le_refl _, by unfold maxLen; omega, by omega⟩
  · refine ⟨some ad, len, cap, ?_⟩
    simp at hmm
    have hw : (len + (m - len)) * 16 ∈ x.1.weights Try.prog 36 := by
      rw [hd]
      simp only [DataW.weights, Try.underlying36]
      rw [show Try.prog.bytesOf 9 = 16 by kernel_rfl]
      simp
    have hsz := hx _ hw
    simp only [reachBytes] at hsz
    have ce : Try.prog.cellsOf 9 = 1 := by kernel_rfl
    rw [ce] at hr
    have hsp : 0 < len → ad.spot = none := fun hp => by
      obtain ⟨cs, h1, _⟩ := hr 0 (by omega)
      obtain ⟨_, hlen, hcell⟩ := World.cells?_some h1
      have h0 := hcell 0 (by omega)
      rw [List.getElem?_eq_getElem (by omega)] at h0
      have := World.cell?_spot h0
      simpa [Addr.add] using this
    have each : ∀ i, i < len → ∃ x : ByteArray, x.size ≤ 140737488355328 ∧ ∃ b off, ad = ⟨b, off, none⟩ ∧ b < w.heap.size ∧ w.cell? ⟨b, off + i, none⟩ = some (.string x) := by
      intro i hi
      obtain ⟨cs, h1, h2⟩ := hr i (by omega)
      obtain ⟨_, hlen, hcell⟩ := World.cells?_some h1
      have hmem : ∀ q ∈ (D i, Pl i).1.weights Try.prog 9, q ≤ reachBytes := fun q hq => by
        refine hx q ?_
        rw [hd]
        simp only [DataW.weights, Try.underlying36]
        exact List.mem_cons.2 (.inr (List.mem_append.2 (.inl (mem_weightsAll hq (List.mem_map.2 ⟨i, List.mem_range.2 hi, rfl⟩)))))
      obtain ⟨f0, e, b0⟩ := fld_str (x := (D i, Pl i)) h2 hmem
      subst e
      obtain ⟨b, off, spot⟩ := ad
      have hs := hsp (by omega)
      simp only at hs
      subst hs
      rw [Addr.add_lit] at h1
      have hra := range_of_cells h1
      have e0 := hra 0 _ rfl
      refine ⟨f0, b0, b, off, rfl, ?_, by simpa using e0⟩
      have := World.block_lt_of_cell? w _ e0
      simpa using this
    obtain ⟨G, hG⟩ := choose_lt (p := fun i (x : ByteArray) => x.size ≤ 140737488355328 ∧ ∃ b off, ad = ⟨b, off, none⟩ ∧ b < w.heap.size ∧ w.cell? ⟨b, off + i, none⟩ = some (.string x)) each
    refine ⟨(List.range len).map G, hcs, ⟨by simp, fun hp => ?_⟩, ?_, hl, hm, by omega⟩
    · obtain ⟨_, b, off, e1, e2, _⟩ := hG 0 hp
      refine ⟨b, off, by rw [e1], e2, fun i x hi => ?_⟩
      have hlt : i < len := by
        have := (List.getElem?_eq_some_iff.1 hi).1
        simpa using this
      have e : G i = x := by simpa [List.getElem?_map, List.getElem?_range hlt] using hi
      subst e
      obtain ⟨_, b', off', f1, _, f3⟩ := hG i hlt
      rw [e1] at f1
      cases f1
      exact f3
    · intro t ht
      obtain ⟨i, hi, rfl⟩ := List.mem_map.1 ht
      exact (hG i (List.mem_range.1 hi)).1
/-- an act -/
structure AV where
  k : Int
  up : Vx
  dn : Vx
  ia : Option Addr
  inn : Nat
  ic : Nat
  ids : List Vx
  ta : Option Addr
  tn : Nat
  tc : Nat
  ts : List BA
  by_ : Hs
def AV.cells (a : AV) : List Value := [iv a.k] ++ (a.up.cells ++ (a.dn.cells ++ ([.slice a.ia a.inn a.ic] ++ ([.slice a.ta a.tn a.tc] ++ U a.by_))))
/-- what is known of an act that was read -/
def AR (w : World) (a : AV) : Prop := Vk a.up ∧ Vk a.dn ∧ VsR w a.ia a.inn a.ids ∧ TsR w a.ta a.tn a.ts ∧ a.by_.length = 32 ∧ a.inn ≤ a.ic ∧ a.ic ≤ maxLen ∧ a.inn ≤ 140737488355328 ∧ a.tn ≤ a.tc ∧ a.tc ≤ maxLen ∧ a.tn ≤ 140737488355328 ∧ (Lit.int .i64 a.k).wf = true
theorem view_act {fuel : Nat} {cs : List Value} {x : DataW H × List MemPlace} (h : DataW.trod enc Try.prog w 0 (fun _ => true) true fuel 38 cs = some x) (hx : ∀ n ∈ x.1.weights Try.prog 38, n ≤ reachBytes) :
    ∃ a : AV, cs = a.cells ∧ AR w a := by
  obtain ⟨ys, k, hk, hxy, hcl, hxl, hf⟩ := DataW.trod_struct Try.underlying38 h
  have hcl' : cs.length = 101 := by rw [hcl]; kernel_rfl
  have hxl' : ys.length = 6 := hxl
  obtain ⟨y0, y1, y2, y3, y4, y5, rfl⟩ : ∃ y0 y1 y2 y3 y4 y5, ys = [y0, y1, y2, y3, y4, y5] := by
    rcases ys with _ | ⟨y0, _ | ⟨y1, _ | ⟨y2, _ | ⟨y3, _ | ⟨y4, _ | ⟨y5, _ | ⟨z, l⟩⟩⟩⟩⟩⟩⟩ <;> simp at hxl'
    exact ⟨y0, y1, y2, y3, y4, y5, rfl⟩
  have g0 := hf 0 _ rfl
  change DataW.trod enc Try.prog w 0 _ true k 3 ((cs.drop 0).take (Try.prog.cellsOf 3)) = some y0 at g0
  rw [show Try.prog.cellsOf 3 = 1 by kernel_rfl] at g0
  have w0 : ∀ q ∈ y0.1.weights Try.prog 3, q ≤ reachBytes := fun q hq => hx q (by
    rw [show x.1 = DataW.agg [y0.1, y1.1, y2.1, y3.1, y4.1, y5.1] from congrArg Prod.fst hxy]
    simp only [DataW.weights, Try.underlying38, DataW.weightsEach, List.map, List.mem_append]
    exact .inl hq)
  have g1 := hf 1 _ rfl
  change DataW.trod enc Try.prog w 0 _ true k 34 ((cs.drop 1).take (Try.prog.cellsOf 34)) = some y1 at g1
  rw [show Try.prog.cellsOf 34 = 33 by kernel_rfl] at g1
  have w1 : ∀ q ∈ y1.1.weights Try.prog 34, q ≤ reachBytes := fun q hq => hx q (by
    rw [show x.1 = DataW.agg [y0.1, y1.1, y2.1, y3.1, y4.1, y5.1] from congrArg Prod.fst hxy]
    simp only [DataW.weights, Try.underlying38, DataW.weightsEach, List.map, List.mem_append]
    exact .inr (.inl hq))
  have g2 := hf 2 _ rfl
  change DataW.trod enc Try.prog w 0 _ true k 34 ((cs.drop 34).take (Try.prog.cellsOf 34)) = some y2 at g2
  rw [show Try.prog.cellsOf 34 = 33 by kernel_rfl] at g2
  have w2 : ∀ q ∈ y2.1.weights Try.prog 34, q ≤ reachBytes := fun q hq => hx q (by
    rw [show x.1 = DataW.agg [y0.1, y1.1, y2.1, y3.1, y4.1, y5.1] from congrArg Prod.fst hxy]
    simp only [DataW.weights, Try.underlying38, DataW.weightsEach, List.map, List.mem_append]
    exact .inr (.inr (.inl hq)))
  have g3 := hf 3 _ rfl
  change DataW.trod enc Try.prog w 0 _ true k 35 ((cs.drop 67).take (Try.prog.cellsOf 35)) = some y3 at g3
  rw [show Try.prog.cellsOf 35 = 1 by kernel_rfl] at g3
  have w3 : ∀ q ∈ y3.1.weights Try.prog 35, q ≤ reachBytes := fun q hq => hx q (by
    rw [show x.1 = DataW.agg [y0.1, y1.1, y2.1, y3.1, y4.1, y5.1] from congrArg Prod.fst hxy]
    simp only [DataW.weights, Try.underlying38, DataW.weightsEach, List.map, List.mem_append]
    exact .inr (.inr (.inr (.inl hq))))
  have g4 := hf 4 _ rfl
  change DataW.trod enc Try.prog w 0 _ true k 36 ((cs.drop 68).take (Try.prog.cellsOf 36)) = some y4 at g4
  rw [show Try.prog.cellsOf 36 = 1 by kernel_rfl] at g4
  have w4 : ∀ q ∈ y4.1.weights Try.prog 36, q ≤ reachBytes := fun q hq => hx q (by
    rw [show x.1 = DataW.agg [y0.1, y1.1, y2.1, y3.1, y4.1, y5.1] from congrArg Prod.fst hxy]
    simp only [DataW.weights, Try.underlying38, DataW.weightsEach, List.map, List.mem_append]
    exact .inr (.inr (.inr (.inr (.inl hq)))))
  have g5 := hf 5 _ rfl
  change DataW.trod enc Try.prog w 0 _ true k 32 ((cs.drop 69).take (Try.prog.cellsOf 32)) = some y5 at g5
  rw [show Try.prog.cellsOf 32 = 32 by kernel_rfl] at g5
  have w5 : ∀ q ∈ y5.1.weights Try.prog 32, q ≤ reachBytes := fun q hq => hx q (by
    rw [show x.1 = DataW.agg [y0.1, y1.1, y2.1, y3.1, y4.1, y5.1] from congrArg Prod.fst hxy]
    simp only [DataW.weights, Try.underlying38, DataW.weightsEach, List.map, List.mem_append]
    exact .inr (.inr (.inr (.inr (.inr (.inl hq))))))
  obtain ⟨f0, e0, _, b0⟩ := DataW.trod_int Try.underlying3 g0
  obtain ⟨f1, b1, e1⟩ := view_vx g1
  obtain ⟨f2, b2, e2⟩ := view_vx g2
  obtain ⟨a3, n3, c3, l3, e3, r3, q3, m3, z3⟩ := view_vs g3 w3
  obtain ⟨a4, n4, c4, l4, e4, r4, t4, q4, m4, z4⟩ := view_strs g4 w4
  obtain ⟨f5, b5, e5⟩ := view_hash g5
  have hcs : cs = (cs.drop 0).take 1 ++ ((cs.drop 1).take 33 ++ ((cs.drop 34).take 33 ++ ((cs.drop 67).take 1 ++ ((cs.drop 68).take 1 ++ ((cs.drop 69).take 32))))) :=
    (List.drop_zero (l := cs)).symm.trans ((cut_at cs 0 1 1 rfl).trans (congrArg ((cs.drop 0).take 1 ++ ·) ((cut_at cs 1 33 34 rfl).trans (congrArg ((cs.drop 1).take 33 ++ ·) ((cut_at cs 34 33 67 rfl).trans (congrArg ((cs.drop 34).take 33 ++ ·) ((cut_at cs 67 1 68 rfl).trans (congrArg ((cs.drop 67).take 1 ++ ·) ((cut_at cs 68 1 69 rfl).trans (congrArg ((cs.drop 68).take 1 ++ ·) (cut_last cs 69 32 hcl')))))))))))
  rw [e0, e1, e2, e3, e4, e5] at hcs
  exact ⟨⟨f0, f1, f2, a3, n3, c3, l3, a4, n4, c4, l4, f5⟩, hcs, b1, b2, r3, r4, b5, q3, m3, z3, q4, m4, z4, b0⟩
theorem view_actv {fuel : Nat} {xs : Array Value} {x : DataW H × List MemPlace} (h : DataW.trod enc Try.prog w 0 (fun _ => true) true fuel 38 (Value.agg xs).cells.toList = some x) (hs : xs.size = Try.prog.cellsOf 38) (hw : ∀ n ∈ x.1.weights Try.prog 38, n ≤ reachBytes) :
    ∃ a : AV, xs = a.cells.toArray ∧ AR w a := by
  obtain ⟨a, e, hp⟩ := view_act h hw
  refine ⟨a, ?_, hp⟩
  rw [← e]
  simp [Value.cells]
end
end Go.Proofs.Ytjcihaohpbmogaa.Oct
