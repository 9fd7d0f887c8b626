/-
  Layer 11 (lines): rising: all lines' vertices in order.
  Layer 11 (lines): rows of cells; numbers of vertices.
-/
import Derived.Test.YtjcihaohpbmogaaQpAH
import Derived.Maps.Range
/- Layer 11 (lines): rising: all lines' vertices in order. -/
namespace Go.Proofs.Ytjcihaohpbmogaa.Oct
open Go.RowKit Go.Shelf Go.Lib Go.Sort Go.WideMaps Go.ChangeMaps
set_option maxRecDepth 100000
set_option linter.unusedSimpArgs false
set_option linter.unusedVariables false
set_option linter.unusedSectionVars false

set_option maxHeartbeats 1000000 in
theorem sort81 (w : World) (B g n cap : Nat) (vs : List Vx) (hnd : vs.Nodup) (ho : OV B w (.slice (some ⟨g, 0, none⟩) n cap) n vs) (hn : n ≤ 1000000) :
    Calls Try.prog 81 #[.slice (some ⟨g, 0, none⟩) n cap, .func (.func 82) #[] #[]] w fun e w' => e = .returned (.tuple #[]) ∧ ∃ vs', Hid (vs'.Perm vs ∧ vs'.Pairwise LtV ∧ VsR w' (some ⟨g, 0, none⟩) n vs') ∧ Hid (w.grownBy w' (some g)) := by
  have hlen : vs.length = n := ho.len
  have hl : ∀ v ∈ vs, v.ok := fun v hv => (ho.2 v hv).1
  rcases ho.1.2 with ⟨h1, _⟩ | ⟨g', cap', cur, h1, h2, h3, h4, h5, h6, h7⟩
  · cases h1
  obtain ⟨rfl, rfl⟩ : g = g' ∧ cap = cap' := by
    simp only [Value.slice.injEq, Option.some.injEq, Addr.mk.injEq] at h1
    exact ⟨h1.1.1, h1.2.2⟩
  have hr : ∀ i v, vs[i]? = some v → w.rangeAt g (0 + i * 33) v.cells := (rangeAt_FV vs 0 ho.2).2 (by
    intro j u hj
    have := ho.1.cells (g := g) rfl j u hj
    rw [Addr.add_lit] at this
    exact this)
  have hH := holds_of hl h3 hr
  have eg : ∀ args w, (callFunc 82 args).run Try.prog w = .ok (.enter 82 args) w := Go.Proofs.enters_of Try.func82 (by kernel_rfl) rfl
  have hg := (Array.getElem?_eq_some_iff.1 h3).1
  have hcon := Go.Proofs.AnyQ.slices_SortFunc laysSF 33 Try.isAgg34 Try.sizeOf34 encV (fun x => Vx.len x.2) (fun x v hv => Vx.one x.1 v hv) cf33 swo33 82 #[] g 0 cap (toV vs hl).toArray w eg (cmpLays82 g 0 _ w) hH hg (by simp [toV_length]; omega)
  change Calls Try.prog 81 _ _ _ at hcon
  have hsz : (toV vs hl).toArray.size = n := by simp [toV_length, hlen]
  rw [hsz] at hcon
  refine hcon.mono ?_
  rintro e w' ⟨rfl, d', m, os, hp, hs, rfl⟩
  obtain ⟨p1, _, p3⟩ := hp
  have hd : d'.size = n := by rw [p1, hsz]
  have hperm : d'.toList.Perm (toV vs hl) := by
    have e1 : (d'.extract 0 n).toList = d'.toList := by rw [← hd]; simp
    have e2 : ((toV vs hl).toArray.extract 0 n).toList = toV vs hl := by rw [← hsz]; simp
    rw [e1, e2] at p3
    exact p3
  have hp2 : (d'.toList.map (·.1)).Perm vs := by
    have := hperm.map (·.1)
    rw [toV_val] at this
    exact this
  refine ⟨rfl, d'.toList.map (·.1), ⟨hp2, ?_, ?_⟩, grown_sort w g m _ os⟩
  · have hnd2 := hp2.nodup_iff.2 hnd
    rw [List.pairwise_iff_getElem]
    intro i j hi hj hij
    simp only [List.length_map, Array.length_toList] at hi hj
    have h9 := hs i j (Nat.zero_le _) hij (by omega)
    rw [lt33, getElem!_pos d' j (by omega), getElem!_pos d' i (by omega)] at h9
    simp only [decide_eq_false_iff_not] at h9
    simp only [List.getElem_map, Array.getElem_toList]
    rcases LtV.tri d'[i].1 d'[j].1 with h | h | h
    · exact h
    · exfalso
      have e1 : (d'.toList.map (·.1))[i]? = some d'[i].1 := by simp [hi]
      have e2 : (d'.toList.map (·.1))[j]? = some d'[j].1 := by simp [hj]
      have := (List.getElem?_inj (by simpa using hi) hnd2).1 (e1.trans (by rw [h, e2]))
      omega
    · exact absurd h h9
  · have hk : HoldsK encV 33 (sortWorldK encV 33 w g 0 m d' os) g 0 d' := by
      unfold sortWorldK
      apply holdsK_grow
      · simpa [putRowK, putRow, mapBlock, ahead] using hg
      · apply holdsK_putRowK (d0 := (toV vs hl).toArray)
        · exact hH
        · rw [p1]
    have e9 : d' = d'.toList.toArray := by simp
    rw [e9] at hk
    have h10 := of_holds (d := d'.toList) hk (Nat.lt_of_lt_of_le hg (grown_sort w g m _ os).size)
    rw [← e9] at h10
    exact ⟨by simp [hd], fun v hv => ho.2 v (hp2.mem_iff.1 hv), fun _ => ⟨g, 0, rfl, Nat.lt_of_lt_of_le hg (grown_sort w g m _ os).size, h10⟩⟩
section
variable {ops : Array Oper} {rest : List Oper} {o : Oper} {a : Act} {w : World} {Q : Exit → Act → World → Prop}
theorem wpList_mk (hg : o.guard = none) (l c : Operand) (hop : o.op = Op.makeSlice 35 l c) (B n : Nat) (hl : a.eval l = .int .i64 0) (hc : a.eval c = .int .i64 (n : Int)) (hn : n ≤ 1000000) (hB : B ≤ w.heap.size)
    (hK : ∀ w', OV B w' (.slice (some ⟨w.heap.size, 0, none⟩) 0 n) 0 [] → Below w.heap.size w w' → wpList Try.prog ops Q rest (a.put o.dst (.slice (some ⟨w.heap.size, 0, none⟩) 0 n)) w') : wpList Try.prog ops Q (o :: rest) a w := by
  refine wpList_plain hg fun K' hK' => ?_
  obtain ⟨i, hi, hs1, hby, z, hz, hzs⟩ := info34'
  obtain ⟨w', hrun, h1, h2⟩ := run_make_own (P := Try.prog) w B 35 34 i z 33 Try.underlying35 hi hz hs1 .i64 .i64 n (by rw [hby]; omega) (by unfold maxLen; omega) hB
  unfold Oper.wp execOp
  simp [hop, hl, hc, hrun, Result.andThen]
  exact hK' _ _ (hK w' ⟨h1, by simp⟩ ⟨h2.os, h2.tape, h2.output, h2.size, fun k hk => h2.block k hk (by simp)⟩)
theorem wpList_range (hg : o.guard = none) (t : TypeId) (m : Operand) (hop : o.op = Op.range t m) {K : Type} [MK K] [DecidableEq K] {E : TypeId} (ht : Try.prog.underlying t = some (.map (MK.kt K) E)) (b : Nat) (es : List (Ent K)) (hm : a.eval m = .map (some b)) (hs : HM w b es)
    (hK : ∀ w', HMR w' b w.heap.size es es → Below w.heap.size w w' → w'.heap.size = w.heap.size + 1 → wpList Try.prog ops Q rest (a.put o.dst (.pointer (some ⟨w.heap.size, 0, none⟩))) w') : wpList Try.prog ops Q (o :: rest) a w := by
  refine wpList_plain hg fun K' hK' => ?_
  obtain ⟨w', hrun, h1, h2, h3⟩ := hs.range (t := t) (E := E) ht
  unfold Oper.wp execOp
  simp [hop, hm, hrun, Result.andThen]
  exact hK' _ _ (hK w' h1 h2 h3)
end
section
variable {K : Type} [MK K] [DecidableEq K]
theorem HMR.left {w : World} {b r : Nat} {es left : List (Ent K)} (h : HMR w b r es left) : w.rangeLeft b r = left.length := by
  obtain ⟨clock, seen, h1, h2, h3, _⟩ := h
  unfold World.rangeLeft
  rw [h1, h2]
  have := congrArg List.length (filter_seen es seen)
  simp only [List.length_map, ← h3] at this
  simpa using this
theorem HMR.kept {w w' : World} {b r : Nat} {es left : List (Ent K)} {row : Option Nat} (h : HMR w b r es left) (hg : w.grownBy w' row) (h1 : some b ≠ row) (h2 : some r ≠ row) : HMR w' b r es left :=
  h.same (hg.block b h.lt.1 h1) (hg.block r h.lt.2.1 h2)
theorem HMR.below {w w' : World} {b r : Nat} {es left : List (Ent K)} (h : HMR w b r es left) (hb : Below w.heap.size w w') : HMR w' b r es left :=
  h.same (hb.block b h.lt.1) (hb.block r h.lt.2.1)
end
theorem OV.slice' {B g n c m : Nat} {w : World} {vs : List Vx} (h : OV B w (.slice (some ⟨g, 0, none⟩) n c) m vs) : g < w.heap.size := by
  rcases h.1.2 with ⟨h1, _⟩ | ⟨g', cap, cur, h1, h2, h3, _⟩
  · cases h1
  · cases h1
    exact (Array.getElem?_eq_some_iff.1 h3).1
theorem OV.row {B : Nat} {w w' : World} {v : Value} {n : Nat} {vs : List Vx} (h : OV B w v n vs) (hg : w.grownBy w' v.ownBlock) {k : Nat} (hk : k < w.heap.size) (hkB : k < B) : w'.heap[k]? = w.heap[k]? := by
  refine hg.block k hk (fun e => ?_)
  rcases h.1.2 with ⟨e0, _⟩ | ⟨g', cap, cur, e0, h2, h3, _⟩
  · rw [e0] at e; cases e
  · rw [e0] at e
    have e9 : k = g' := Option.some.inj e
    omega
/-- all lines' vertices in order -/
def Gm.rise (G : Gm) (vs : List Vx) : Prop := vs.Perm G.keys ∧ vs.Pairwise LtV
set_option maxHeartbeats 2000000 in
theorem rising_is {w : World} {p : Nat} {G : Gm} (h : GAt w p G) : Calls Try.prog 69 #[.pointer (some ⟨p, 0, none⟩)] w fun e w' => ∃ a n c vs, e = .returned (.slice a n c) ∧ Hid (VsR w' a n vs ∧ G.rise vs) ∧ Hid (Below w.heap.size w w') := by
  have c0 : w.cell? ⟨p, 0, none⟩ = some (.map (some G.mb)) := h.blk.cell rfl
  obtain ⟨es, hes, hkv⟩ := h.mp
  have hke : es.map (·.k) = G.keys := by
    have := congrArg (List.map (·.1)) hkv
    unfold linesKv at this
    rw [List.map_map, List.map_map] at this
    exact this
  have hl := h.mp.len (t := 65) (E := 71) Try.underlying65 3
  rw [show (linesKv G.ls).length = G.ls.length by simp [linesKv]] at hl
  obtain ⟨k, hk⟩ : ∃ k, G.ls.length = k := ⟨_, rfl⟩
  rw [hk] at hl
  have hVk : ∀ e ∈ es, Vk e.k := hes.choose_spec.2.2.2.2
  have HS : Hid (GAt w p G ∧ HM w G.mb es ∧ es.map (·.k) = G.keys ∧ k ≤ 512 ∧ G.ls.length = k ∧ ∀ e ∈ es, Vk e.k) := ⟨h, hes, hke, by rw [← hk]; exact h.few, hk, hVk⟩
  have q0 : (k : Int) ≤ 512 := by have := HS.out.2.2.2.1; omega
  obtain ⟨Z, hZ, HZ⟩ := zval34
  clear h hes hkv hke hk hVk
  generalize hmb : G.mb = mb at c0 hl
  go_enter Try.func69, Try.ntmps69
  go_wp2_with (with_reducible change wpList _ _ _ ({ dst := some 10, op := _, type := _, pos := _, after := _, guard := _ } :: _) _ _; refine Hid.out ?_)
  show wpList _ _ _ _ _ _
  clear hl
  obtain ⟨g0, hg0⟩ : ∃ g, w.heap.size = g := ⟨_, rfl⟩
  have HG0 : Hid (w.heap.size = g0) := hg0
  refine wpList_mk rfl (.const (.int .i64 0)) (.tmp 9) rfl g0 k rfl rfl (by have := HS.out.2.2.2.1; omega) (Nat.le_of_eq hg0.symm) ?_
  intro w1 r1 r2
  rw [hg0] at r1
  have H1 : Hid (OV g0 w1 (.slice (some ⟨g0, 0, none⟩) 0 k) 0 [] ∧ Below w.heap.size w w1 ∧ HM w1 mb es) := ⟨r1, r2, by rw [← hmb]; exact HS.out.2.1.below r2 HS.out.2.1.lt⟩
  have c1 : w1.cell? ⟨p, 0, none⟩ = some (.map (some mb)) := by
    rw [← hmb]
    exact (HS.out.1.below r2).blk.cell rfl
  rw [hg0]
  clear r1 r2 hg0 c0
  go_wp2_with (with_reducible change wpList _ _ _ ({ dst := some 15, op := _, type := _, pos := _, after := _, guard := _ } :: _) _ _; refine Hid.out ?_)
  show wpList _ _ _ _ _ _
  obtain ⟨r, hr⟩ : ∃ r, w1.heap.size = r := ⟨_, rfl⟩
  have HR0 : Hid (w1.heap.size = r) := hr
  refine wpList_range rfl 65 (.tmp 14) rfl (K := Vx) (E := 71) Try.underlying65 mb es rfl H1.out.2.2 ?_
  intro w2 r1 r2 r3
  rw [hr] at r1
  rw [hr]
  have H2 : Hid (HMR w2 mb r es es ∧ Below w.heap.size w w2 ∧ OV g0 w2 (.slice (some ⟨g0, 0, none⟩) 0 k) 0 [] ∧ g0 < r ∧ mb < g0 ∧ w.heap.size = g0) := by
    refine ⟨r1, below_tr H1.out.2.1 r2, H1.out.1.below r2, ?_, ?_, HG0.out⟩
    · rw [← HR0.out]
      exact H1.out.1.slice'
    · have := HS.out.2.1.lt
      rw [hmb, HG0.out] at this
      exact this
  clear r1 r2 r3 hr c1 H1
  simp only [Act.put, List.setIfInBounds_toArray, List.set_cons_zero, List.set_cons_succ]
  go_wp2
  go_loopw [3] (fun u wr => ∃ (os : List Vx) (left : List (Ent Vx)), Hid (HMR wr mb r es left ∧ OV g0 wr u os.length os ∧ u.ownBlock ≠ none ∧ (os ++ left.map (·.k)).Perm G.keys ∧ Below w.heap.size w wr)) (fun _ wr => wr.rangeLeft mb r)
  case atStart => exact ⟨[], es, H2.out.1, H2.out.2.2.1, by simp [Value.ownBlock], by rw [← HS.out.2.2.1]; exact List.Perm.refl _, H2.out.2.1⟩
  case round =>
    obtain ⟨V, hV⟩ : ∃ V, V = wr := ⟨_, rfl⟩
    subst hV
    obtain ⟨os, left, HB⟩ := hrel
    have HLL : Hid (V.rangeLeft mb r = left.length) := HB.out.1.left
    have HOL : Hid (os.length + left.length ≤ 512) := by
      have h1 := HB.out.2.2.2.1.length_eq
      have h2 := HS.out.2.2.2.1
      have h3 := HS.out.2.2.2.2.1
      simp [Gm.keys] at h1
      show _ ≤ _
      omega
    rcases HB.out.1.next 0 with ⟨h0, hrun⟩ | ⟨e, left', w3, he, hp, hrun, h3, hg3, hz3, hen⟩
    · have HE : Hid (left = []) := h0
      clear h0
      go_wp2_with fail
      clear hrun
      have HP : Hid (os.Perm G.keys) := by
        show os.Perm G.keys
        have := HB.out.2.2.2.1
        rw [HE.out] at this
        simpa using this
      obtain ⟨g, cap, hv⟩ : ∃ g cap, u3 = .slice (some ⟨g, 0, none⟩) os.length cap ∧ g0 ≤ g ∧ os.length ≤ cap := by
        rcases HB.out.2.1.1.2 with ⟨h1, _⟩ | ⟨g, cap, cur, h1, h2, _, h3, _⟩
        · exact absurd (by rw [h1]; rfl) HB.out.2.2.1
        · exact ⟨g, cap, h1, h2, h3⟩
      obtain ⟨rfl, hgw, hcap⟩ := hv
      have H81 : Hid (Calls Try.prog 81 #[.slice (some ⟨g, 0, none⟩) os.length cap, .func (.func 82) #[] #[]] V fun e w' => e = .returned (.tuple #[]) ∧ ∃ vs', Hid (vs'.Perm os ∧ vs'.Pairwise LtV ∧ VsR w' (some ⟨g, 0, none⟩) os.length vs') ∧ Hid (V.grownBy w' (some g))) := sort81 V g0 g os.length cap os (HP.out.nodup_iff.2 HS.out.1.nodup) HB.out.2.1 (by have := HOL.out; omega)
      refine H81.out.mono ?_
      rintro e w4 ⟨rfl, vs, H4, HG4⟩
      go_wp2
      go_ret
      exact ⟨some ⟨g, 0, none⟩, os.length, cap, vs, rfl, ⟨H4.out.2.2, H4.out.1.trans HP.out, H4.out.2.1⟩, HB.out.2.2.2.2.grown HG4.out HB.out.2.2.2.2.size (fun j hj => by cases hj; have := HG0.out; omega)⟩
    · have hrun' : (Instr.next (.pointer (some ⟨r, 0, none⟩)) false 0).run Try.prog V = .ok (.tuple #[.bool true, .agg e.k.cells.toArray, e.v]) w3 := hrun
      have hen' : (Instr.entry (.pointer (some ⟨r, 0, none⟩))).run Try.prog w3 = .ok (.tuple #[.agg e.k.cells.toArray, e.v]) w3 := hen
      have HE : Hid (left.Perm (e :: left') ∧ HMR w3 mb r es left' ∧ V.grownBy w3 (some r) ∧ Vk e.k ∧ OV g0 w3 u3 os.length os ∧ Below w.heap.size w w3) := by
        have hek : e ∈ es := by
          obtain ⟨clock, seen, _, _, hl, _⟩ := HB.out.1
          rw [hl] at he
          exact (List.mem_filter.1 he).1
        refine ⟨hp, h3, hg3, HS.out.2.2.2.2.2 e hek, ?_, HB.out.2.2.2.2.grown hg3 HB.out.2.2.2.2.size (fun j hj => by cases hj; have := H2.out.2.2.2; omega)⟩
        refine ⟨⟨HB.out.2.1.1.1, ?_⟩, HB.out.2.1.2⟩
        rcases HB.out.2.1.1.2 with h9 | ⟨g, cap, cur, h9, h10, h11, h12⟩
        · exact .inl h9
        · refine .inr ⟨g, cap, cur, h9, h10, (hg3.block g (Array.getElem?_eq_some_iff.1 h11).1 (fun e9 => ?_)).trans h11, h12⟩
          cases e9
          obtain ⟨clock, seen, _, h13, _⟩ := HB.out.1
          rw [h13] at h11
          cases h11
      clear hrun hen he hp h3 hg3 hz3
      go_wp2_with (first
        | (with_reducible change wpList _ _ _ ({ dst := none, op := Op.store 34 _ _, type := _, pos := _, after := _, guard := _ } :: _) _ _
           refine Hid.out ?_)
        | fail)
      show wpList _ _ _ _ _ _
      refine wpList_store_fresh rfl 34 (.tmp 4) (.tmp 19) rfl Z e.k.cells 34 rfl rfl (by rw [Vx.len HE.out.2.2.2.1.1, HZ.out]) (info34 HE.out.2.2.2.1.1) (Vx.one e.k) ?_
      obtain ⟨V4, hV4⟩ : ∃ W, w3.alloc (.cells e.k.cells.toArray 34) = W := ⟨_, rfl⟩
      obtain ⟨d4, hd4⟩ : ∃ g, w3.heap.size = g := ⟨_, rfl⟩
      have H4 : Hid (Below w.heap.size w V4 ∧ HMR V4 mb r es left' ∧ OV g0 V4 u3 os.length os ∧ Blk V4 d4 34 e.k.cells) := by
        have hbl : Below w3.heap.size w3 V4 := by rw [← hV4]; exact below_al _ _
        exact ⟨below_tr HE.out.2.2.2.2.2 hbl, HE.out.2.1.below hbl, HE.out.2.2.2.2.1.below hbl, by rw [← hV4, ← hd4]; exact Blk.new w3 _ _⟩
      rw [hV4, hd4]
      clear hV4 hd4 hrun' hen'
      go_wp2_with (first
        | (with_reducible change wpList _ _ _ ({ dst := some 21, op := _, type := _, pos := _, after := _, guard := _ } :: _) _ _
           refine wpList_load_want rfl 34 (.tmp 4) rfl d4 0 rfl e.k.cells _ H4.out.2.2.2.range0 Try.underlying34 rfl (info34 HE.out.2.2.2.1.1) ?_)
        | (with_reducible change wpList _ _ _ ({ dst := some 22, op := _, type := _, pos := _, after := _, guard := _ } :: _) _ _
           refine wpList_bslice1 rfl (.tmp 21) rfl e.k HE.out.2.2.2.1.1 rfl ?_)
        | (with_reducible change wpList _ _ _ ({ dst := some 23, op := _, type := _, pos := _, after := _, guard := _ } :: _) _ _
           refine Hid.out ?_)
        | fail)
      show wpList _ _ _ _ _ _
      obtain ⟨V5, hV5⟩ : ∃ W, V4.alloc (.cells e.k.cells.toArray 34) = W := ⟨_, rfl⟩
      obtain ⟨d5, hd5⟩ : ∃ g, V4.heap.size = g := ⟨_, rfl⟩
      have H5 : Hid (Below w.heap.size w V5 ∧ HMR V5 mb r es left' ∧ OV g0 V5 u3 os.length os ∧ VsR V5 (some ⟨d5, 0, none⟩) 1 [e.k]) := by
        have hbl : Below V4.heap.size V4 V5 := by rw [← hV5]; exact below_al _ _
        exact ⟨below_tr H4.out.1 hbl, H4.out.2.1.below hbl, H4.out.2.2.1.below hbl, by rw [← hV5, ← hd5]; exact VsR.one V4 e.k HE.out.2.2.2.1⟩
      rw [hV5, hd5]
      clear hV5 hd5
      refine wpList_app rfl (.tmp 20) (.tmp 22) rfl g0 u3 os.length os (some ⟨d5, 0, none⟩) 1 1 [e.k] rfl rfl H5.out.2.2.1 H5.out.2.2.2 (by have := HOL.out; omega) (by have := H5.out.1.size; have := HG0.out; omega) ?_
      intro v' V6 r1 r2 r3
      have H6 : Hid (Below w.heap.size w V6 ∧ HMR V6 mb r es left' ∧ OV g0 V6 v' (os ++ [e.k]).length (os ++ [e.k]) ∧ v'.ownBlock ≠ none ∧ (os ++ [e.k] ++ left'.map (·.k)).Perm G.keys ∧ V6.rangeLeft mb r < left.length) := by
        have hne : ∀ k, some k = u3.ownBlock → g0 ≤ k ∧ ∃ C, V5.heap[k]? = some (.cells C 34 (0, 0)) := fun k hk => by
          rcases H5.out.2.2.1.1.2 with ⟨h9, _⟩ | ⟨g, cap, cur, h9, h10, h11, _⟩
          · rw [h9] at hk; cases hk
          · rw [h9] at hk
            have : k = g := Option.some.inj hk
            subst this
            exact ⟨h10, cur, h11⟩
        have hm6 : HMR V6 mb r es left' := by
          refine H5.out.2.1.kept r2 (fun e9 => ?_) (fun e9 => ?_)
          · obtain ⟨_, C, h9⟩ := hne _ e9
            obtain ⟨clock, seen, h13, _⟩ := H5.out.2.1
            rw [h13] at h9
            cases h9
          · obtain ⟨_, C, h9⟩ := hne _ e9
            obtain ⟨clock, seen, _, h13, _⟩ := H5.out.2.1
            rw [h13] at h9
            cases h9
        refine ⟨H5.out.1.grown r2 H5.out.1.size (fun j hj => by have := (hne j hj.symm).1; have := HG0.out; omega), hm6, by rw [List.length_append]; exact r1, ?_, ?_, ?_⟩
        · rcases r3 with h | h
          · rw [h]; exact HB.out.2.2.1
          · rw [h]; simp
        · refine List.Perm.trans ?_ HB.out.2.2.2.1
          rw [List.append_assoc]
          have hmp : ((e :: left').map (fun x : Ent Vx => x.k)).Perm (left.map (fun x : Ent Vx => x.k)) := (HE.out.1.map (fun x : Ent Vx => x.k)).symm
          exact List.Perm.append_left os hmp
        · rw [hm6.left, HE.out.1.length_eq]
          simp
      clear r1 r2 r3
      go_wp2
      refine ⟨⟨os ++ [e.k], left', H6.out.2.1, H6.out.2.2.1, H6.out.2.2.2.1, H6.out.2.2.2.2.1, H6.out.1⟩, ?_⟩
      rw [HLL.out]
      exact H6.out.2.2.2.2.2
end Go.Proofs.Ytjcihaohpbmogaa.Oct

/- Layer 11 (lines): rows of cells; numbers of vertices. -/
namespace Go.Proofs.Ytjcihaohpbmogaa.Oct
open Go.RowKit
set_option maxRecDepth 100000
set_option linter.unusedSimpArgs false
set_option linter.unusedVariables false
set_option linter.unusedSectionVars false

/-- a row of cells of a type that can be read -/
def CR (w : World) (t : TypeId) (a : Option Addr) (n : Nat) (cs : List Value) : Prop :=
  cs.length = n ∧ (0 < n → ∃ g off, a = some ⟨g, off, none⟩ ∧ (∃ C f, w.heap[g]? = some (.cells C t f)) ∧ ∀ i v, cs[i]? = some v → w.cell? ⟨g, off + i, none⟩ = some v)
/-- one of the call's own -/
def OC (B : Nat) (w : World) (t : TypeId) (v : Value) (n : Nat) (cs : List Value) : Prop := w.ownsRow B t 1 v n cs ∧ ∀ u ∈ cs, u.oneCell' = true
section
variable {w w' : World} {t : TypeId} {a : Option Addr} {n B : Nat} {v : Value} {cs : List Value}
theorem CR.nil (w : World) (t : TypeId) (a : Option Addr) : CR w t a 0 [] := ⟨rfl, fun h => absurd h (by omega)⟩
theorem CR.same (h : CR w t a n cs) (hs : ∀ g off, a = some ⟨g, off, none⟩ → (∃ C f, w.heap[g]? = some (.cells C t f)) → w'.heap[g]? = w.heap[g]?) : CR w' t a n cs := by
  refine ⟨h.1, fun hp => ?_⟩
  obtain ⟨g, off, e, h1, h2⟩ := h.2 hp
  have h3 := hs g off e h1
  exact ⟨g, off, e, by rw [h3]; exact h1, fun i v hi => (cell_same h3).trans (h2 i v hi)⟩
theorem CR.below (h : CR w t a n cs) (hb : Below w.heap.size w w') : CR w' t a n cs := h.same fun g off _ ⟨C, f, h1⟩ => hb.block g (Array.getElem?_eq_some_iff.1 h1).1
/-- what is written lies in a block of another type -/
theorem CR.grown {row : Option Nat} (h : CR w t a n cs) (hg : w.grownBy w' row) (hne : ∀ g C f, row = some g → w.heap[g]? ≠ some (.cells C t f)) : CR w' t a n cs :=
  h.same fun g off _ ⟨C, f, h1⟩ => hg.block g (Array.getElem?_eq_some_iff.1 h1).1 (fun e => hne g C f e.symm h1)
theorem OC.blk (h : OC B w t v n cs) {g : Nat} (hg : v.ownBlock = some g) : B ≤ g ∧ ∃ C, w.heap[g]? = some (.cells C t (0, 0)) := by
  rcases h.1.2 with ⟨rfl, _⟩ | ⟨g', cap, cur, rfl, h1, h2, _⟩
  · cases hg
  · cases hg
    exact ⟨h1, cur, h2⟩
theorem OC.len (h : OC B w t v n cs) : cs.length = n := by have := h.1.1; omega
theorem OC.read (h : OC B w t v n cs) : ∃ a c, v = .slice a n c ∧ CR w t a n cs ∧ n ≤ c := by
  have hl := h.len
  rcases h.1.2 with ⟨rfl, rfl⟩ | ⟨g, cap, cur, rfl, h1, h2, h3, h4, h5, h6⟩
  · exact ⟨none, 0, rfl, ⟨hl, fun h => absurd h (by omega)⟩, Nat.le_refl _⟩
  · refine ⟨some ⟨g, 0, none⟩, cap, rfl, ⟨hl, fun _ => ⟨g, 0, rfl, ⟨cur, _, h2⟩, fun i u hi => ?_⟩⟩, h3⟩
    have := h.1.cells (g := g) rfl i u hi
    rw [Addr.add_lit] at this
    exact this
theorem OC.same (h : OC B w t v n cs) (hs : ∀ g, v.ownBlock = some g → w'.heap[g]? = w.heap[g]?) : OC B w' t v n cs := by
  refine ⟨⟨h.1.1, ?_⟩, h.2⟩
  rcases h.1.2 with h1 | ⟨g, cap, cur, h1, h2, h3, h4⟩
  · exact .inl h1
  · exact .inr ⟨g, cap, cur, h1, h2, (hs g (by rw [h1]; rfl)).trans h3, h4⟩
theorem OC.below (h : OC B w t v n cs) (hb : Below w.heap.size w w') : OC B w' t v n cs := h.same fun g hg => by
  obtain ⟨_, C, h1⟩ := h.blk hg
  exact hb.block g (Array.getElem?_eq_some_iff.1 h1).1
theorem OC.grown {row : Option Nat} (h : OC B w t v n cs) (hg : w.grownBy w' row) (hne : ∀ g C f, row = some g → w.heap[g]? ≠ some (.cells C t f)) : OC B w' t v n cs := h.same fun g hgv => by
  obtain ⟨_, C, h1⟩ := h.blk hgv
  exact hg.block g (Array.getElem?_eq_some_iff.1 h1).1 (fun e => hne g C _ e.symm h1)
theorem OC.nil (B : Nat) (w : World) (t : TypeId) : OC B w t (.slice none 0 0) 0 [] := ⟨⟨rfl, .inl ⟨rfl, rfl⟩⟩, by simp⟩
theorem OC.lo {B' : Nat} (h : OC B w t v n cs) (hB : B' ≤ B) : OC B' w t v n cs := by
  refine ⟨⟨h.1.1, ?_⟩, h.2⟩
  rcases h.1.2 with h1 | ⟨g, cap, cur, h1, h2, h3⟩
  · exact .inl h1
  · exact .inr ⟨g, cap, cur, h1, by omega, h3⟩
end
/-- one cell more -/
structure One (T e by_ : Nat) : Prop where
  un : Try.prog.underlying T = some (.slice e)
  inf : ∃ i z, Try.prog.info? e = some i ∧ i.zero = some z ∧ i.size = 1 ∧ i.bytes = by_ ∧ z.cells.size = 1
  le : by_ ≤ 64
theorem inf_of {e b : Nat} (h : (Try.prog.info? e).map (fun i => (i.size, i.bytes, i.zero.map (·.cells.size))) = some (1, b, some 1)) : ∃ i z, Try.prog.info? e = some i ∧ i.zero = some z ∧ i.size = 1 ∧ i.bytes = b ∧ z.cells.size = 1 := by
  obtain ⟨i, hi, he⟩ := Option.map_eq_some_iff.1 h
  simp only [Prod.mk.injEq] at he
  obtain ⟨z, hz, hz2⟩ := Option.map_eq_some_iff.1 he.2.2
  exact ⟨i, z, hi, hz, he.1, he.2.1, hz2⟩
theorem one77 : One 77 71 8 := ⟨Try.underlying77, inf_of (by kernel_rfl), by omega⟩
theorem one78 : One 78 82 24 := ⟨Try.underlying78, inf_of (by kernel_rfl), by omega⟩
theorem one82 : One 82 3 8 := ⟨Try.underlying82, inf_of (by kernel_rfl), by omega⟩
theorem bs71 (p : Option Addr) (W : World) : (Instr.buildSlice 77 1 #[(0, .pointer p)]).run Try.prog W = .ok (.slice (some ⟨W.heap.size, 0, none⟩) 1 1) (W.alloc (.cells [Value.pointer p].toArray 71)) := by kernel_rfl
theorem bs82s (a : Option Addr) (n c : Nat) (W : World) : (Instr.buildSlice 78 1 #[(0, .slice a n c)]).run Try.prog W = .ok (.slice (some ⟨W.heap.size, 0, none⟩) 1 1) (W.alloc (.cells [Value.slice a n c].toArray 82)) := by kernel_rfl
theorem bs3 (x : Int) (W : World) : (Instr.buildSlice 82 1 #[(0, iv x)]).run Try.prog W = .ok (.slice (some ⟨W.heap.size, 0, none⟩) 1 1) (W.alloc (.cells [iv x].toArray 3)) := by kernel_rfl
section
variable {ops : Array Oper} {rest : List Oper} {o : Oper} {a : Act} {w : World} {Q : Exit → Act → World → Prop}
theorem wpList_bs (hg : o.guard = none) (T : TypeId) (x : Operand) (hop : o.op = Op.buildSlice T 1 #[(0, x)]) (u r : Value) (hx : a.eval x = u) (W' : World) (hr : (Instr.buildSlice T 1 #[(0, u)]).run Try.prog w = .ok r W')
    (hK : wpList Try.prog ops Q rest (a.put o.dst r) W') : wpList Try.prog ops Q (o :: rest) a w := by
  refine wpList_plain hg fun K' hK' => ?_
  unfold Oper.wp execOp
  simp only [hop, List.map_toArray, List.map_cons, List.map_nil, hx, Sem.run_bind, Sem.run_pure, Result.andThen_ok, hr]
  exact hK' _ _ hK
/-- append of one cell that was laid right ahead -/
theorem wpList_appc (hg : o.guard = none) {T e b : Nat} (h1 : One T e b) (s x : Operand) (hop : o.op = Op.call { callee := Callee.builtin Builtin.append, args := #[s, x], argTypes := #[T, T] }) (B : Nat) (v : Value) (n : Nat) (cs : List Value) (z : Nat) (u : Value) (hv : a.eval s = v) (hx : a.eval x = .slice (some ⟨z, 0, none⟩) 1 1)
    (hown : OC B w e v n cs) (hz : Blk w z e [u]) (hu : u.oneCell' = true) (hn : n ≤ 100000) (hB : B ≤ w.heap.size)
    (hK : ∀ v' w', OC B w' e v' (n + 1) (cs ++ [u]) → w.grownBy w' v.ownBlock → (∀ g, v.ownBlock = some g → B ≤ g ∧ ∃ C, w.heap[g]? = some (.cells C e (0, 0))) → wpList Try.prog ops Q rest (a.put o.dst v') w') : wpList Try.prog ops Q (o :: rest) a w := by
  refine wpList_plain hg fun K' hK' => ?_
  obtain ⟨i, zr, k0, k1, k2, k3, k4⟩ := h1.inf
  have hle := h1.le
  obtain ⟨v', W', hr, h2, h3, _⟩ := run_append_own_at (P := Try.prog) (w := w) B T o.type e i zr 1 b h1.un k0 k1 k2 k3 k4 (by omega) v n cs hown.1 ⟨z, 0, none⟩ 1 1 [u] rfl (fun j y hy => by
    rw [Addr.add_lit, Nat.zero_add]
    exact hz.cell hy) (by simpa using hu) (by unfold maxLen; omega) (by
      have : (n + 1) * b ≤ 100001 * 64 := Nat.mul_le_mul (by omega) hle
      omega) hB
  unfold Oper.wp execOp
  simp only [hop, resolve, invoke, builtin, Sem.run_bind, Sem.run_pure, Result.andThen_ok, List.map_toArray, List.map_cons, List.map_nil, hv, hx, hr]
  refine hK' _ _ (hK v' W' ⟨h2, fun y hy => ?_⟩ h3 (fun g hg => hown.blk hg))
  rcases List.mem_append.1 hy with h | h
  · exact hown.2 y h
  · rw [List.mem_singleton.1 h]; exact hu
end
/-- the numbers of vertices -/
def numKv (vs : List Vx) : Kv Vx := vs.zipIdx.map fun x => (x.1, iv (x.2 : Int))
theorem numKv_take {vs : List Vx} (hn : vs.Nodup) {i : Nat} {v : Vx} (hi : vs[i]? = some v) : kput (numKv (vs.take i)) v (iv (i : Int)) = numKv (vs.take (i + 1)) := by
  have hlt := (List.getElem?_eq_some_iff.1 hi).1
  have hno : (numKv (vs.take i)).find? (fun x => x.1 == v) = none := by
    rw [List.find?_eq_none]
    intro x hx
    unfold numKv at hx
    obtain ⟨y, hy, rfl⟩ := List.mem_map.1 hx
    have hm : y.1 ∈ vs.take i := by
      have : y.1 ∈ (List.zipIdx (vs.take i)).map Prod.fst := List.mem_map.2 ⟨y, hy, rfl⟩
      rwa [List.zipIdx_map_fst] at this
    obtain ⟨j, hj⟩ := List.getElem?_of_mem hm
    rw [List.getElem?_take] at hj
    split at hj
    · rename_i hji
      have hne : y.1 ≠ v := fun e => by
        rw [e] at hj
        have := (List.getElem?_inj (by omega) hn).1 (hj.trans hi.symm)
        omega
      simpa using hne
    · cases hj
  unfold kput khas kget
  rw [hno]
  show numKv (vs.take i) ++ [(v, iv (i : Int))] = _
  unfold numKv
  rw [List.take_add_one, hi, List.zipIdx_append, List.map_append]
  simp [Nat.min_eq_left (Nat.le_of_lt hlt)]
theorem find_num (u : Vx) : ∀ (vs : List Vx) (k : Nat), ((vs.zipIdx k).map fun x => (x.1, iv (x.2 : Int))).find? (fun x => x.1 == u) = if u ∈ vs then some (u, iv ((k + vs.idxOf u : Nat) : Int)) else none
  | [], k => by simp
  | v :: vs, k => by
    rw [List.zipIdx_cons, List.map_cons, List.find?_cons]
    by_cases h : v = u
    · subst h
      simp
    · have h1 : (v == u) = false := by simpa using h
      simp only [h1]
      rw [find_num u vs (k + 1), List.idxOf_cons, h1]
      by_cases hm : u ∈ vs
      · rw [if_pos hm, if_pos (by simp [hm])]
        congr 4
        simp; omega
      · rw [if_neg hm, if_neg (by
          intro h2
          rcases List.mem_cons.1 h2 with e | e
          · exact h e.symm
          · exact hm e)]
theorem khas_num (vs : List Vx) (u : Vx) : khas (numKv vs) u = decide (u ∈ vs) := by
  unfold khas kget numKv
  rw [find_num]
  by_cases h : u ∈ vs <;> simp [h]
theorem kget_num (vs : List Vx) (u : Vx) (h : u ∈ vs) : (kget (numKv vs) u).getD (iv 0) = iv (vs.idxOf u : Int) := by
  unfold kget numKv
  rw [find_num, if_pos h]
  simp
/-- the numbers of those from which steps lead, as far as they are lines -/
def fln (vs fr : List Vx) : List Nat := fr.filterMap fun u => if u ∈ vs then some (vs.idxOf u) else none
theorem fln_take (vs fr : List Vx) (j : Nat) (u : Vx) (h : fr[j]? = some u) : fln vs (fr.take (j + 1)) = fln vs (fr.take j) ++ (if u ∈ vs then [vs.idxOf u] else []) := by
  unfold fln
  rw [List.take_add_one, h, List.filterMap_append]
  congr 1
  by_cases hu : u ∈ vs <;> simp [hu]
def ivs (l : List Nat) : List Value := l.map fun (k : Nat) => iv (k : Int)
theorem zero3 (W : World) : (zeroValue 3).run Try.prog W = .ok (iv 0) W := by kernel_rfl
end Go.Proofs.Ytjcihaohpbmogaa.Oct
