/-
  Layer 11 (lines): Unkill.
  Layer 11 (lines): isNeeded.
-/
import Derived.Test.YtjcihaohpbmogaaQpBK
/- Layer 11 (lines): Unkill. -/
namespace Go.Proofs.Ytjcihaohpbmogaa.Oct
open Go.RowKit
set_option maxRecDepth 100000
set_option linter.unusedSimpArgs false
set_option linter.unusedVariables false
set_option linter.unusedSectionVars false

theorem kdel_unit2 {K : Type} [DecidableEq K] (L : List K) (y : K) : kdel (unitK L) y = unitK (L.filter (fun x => decide (x ≠ y))) := by
  rw [kdel_unit]
  congr 1
  exact List.filter_congr fun x _ => by rw [Bool.eq_iff_iff, decide_eq_true_eq, bne_iff_ne]
theorem kdel_unit' (L : List Hs) (y : Hs) : kdel (unitK L) y = unitK (L.filter (fun x => decide (x ≠ y))) := kdel_unit2 L y
set_option maxHeartbeats 8000000 in
theorem unkill_is {w : World} {p : Nat} {G : Gm} (h : GAt w p G) (v : Vx) (hv : Vk v) (y : Hs) (hy : MK.ok y) (X : List Value) (hX : v.cells = X) (Y : List Value) (hY : U y = Y) (E : Int) (hE : unkillE G.ps v y = E) (PS : List PL) (hPS : (if E = 0 then turnP (fun l => l.filter (fun x => decide (x ≠ y))) G.ps v else G.ps) = PS) :
    Calls Try.prog 28 #[.pointer (some ⟨p, 0, none⟩), .agg X.toArray, .agg Y.toArray] w fun e w' => e = .returned (iv E) ∧ ∃ G', GAfter w p G G' w' ∧ G'.ps = PS := by
  subst hX
  obtain ⟨d4, hd4⟩ : ∃ d, w.heap.size = d := ⟨_, rfl⟩
  obtain ⟨W1, hW4⟩ : ∃ W, w.alloc (.cells v.cells.toArray 34) = W := ⟨_, rfl⟩
  have bd4 : Below w.heap.size w W1 := by rw [← hW4]; exact below_al _ _
  have kd4 : Blk W1 d4 34 v.cells := by rw [← hW4, ← hd4]; exact Blk.new w _ _
  obtain ⟨d5, hd5⟩ : ∃ d, W1.heap.size = d := ⟨_, rfl⟩
  obtain ⟨W2, hW5⟩ : ∃ W, W1.alloc (.cells Y.toArray 32) = W := ⟨_, rfl⟩
  have bd5 : Below W1.heap.size W1 W2 := by rw [← hW5]; exact below_al _ _
  have kd5 : Blk W2 d5 32 Y := by rw [← hW5, ← hd5]; exact Blk.new W1 _ _
  have S0 : Hid (Below w.heap.size w W2 ∧ Blk W2 d4 34 v.cells ∧ Blk W2 d5 32 Y ∧ GAt W2 p G ∧ w.heap.size ≤ d5) := by
    refine ⟨below_tr bd4 bd5, kd4.below bd5 kd4.lt, kd5, h.below (below_tr bd4 bd5), ?_⟩
    rw [← hd5]
    exact bd4.size
  have h1 := Vx.one v
  have h2 := Try.underlying34
  have h3 := info34 hv.1
  have h4 := Vx.len hv.1
  have HV : Hid (Vk v) := hv
  have HYY : Hid (MK.ok y ∧ U y = Y) := ⟨hy, hY⟩
  have HG0 : Hid (GAt w p G) := h
  have h5 : ∀ x ∈ Y, x.oneCell' = true := by rw [← hY]; exact U_one y
  have h6 := Try.underlying32
  have h7 : (Try.prog.info? 32).map (·.size) = some Y.length := by rw [← hY]; exact info32 y hy
  have h8 : Y.length = 32 := by rw [← hY, U_length]; exact hy
  have HI7 : Hid ((Try.prog.info? 32).map (·.size) = some Y.length) := h7
  have HE : Hid (unkillE G.ps v y = E) := hE
  have HPS : Hid ((if E = 0 then turnP (fun l => l.filter (fun x => decide (x ≠ y))) G.ps v else G.ps) = PS) := hPS
  clear h hv hY hy bd4 bd5 kd4 kd5 hE hPS
  go_enter Try.func28, Try.ntmps28
  go_wp2_with (first
    | (with_reducible change wpList _ _ _ ({ dst := some 13, op := _, type := _, pos := _, after := _, guard := _ } :: _) _ _
       refine wpList_load_want rfl 34 (.tmp 4) rfl d4 0 rfl v.cells _ S0.out.2.1.range0 Try.underlying34 rfl (info34 HV.out.1) ?_)
    | fail)
  clear hW4 hW5 hd4 hd5 h1 h3 h4 h5 h7 h8
  obtain ⟨E0, hE0⟩ : ∃ E, G.fnd v = E := ⟨_, rfl⟩
  refine (find_is S0.out.2.2.2.1 v HV.out v.cells rfl E0 hE0 _ rfl).mono ?_
  rintro e V ⟨rfl, hb⟩
  have S1 : Hid (Below w.heap.size w V ∧ Blk V d5 32 Y ∧ GAt V p G ∧ w.heap.size ≤ d5) := ⟨below_tr S0.out.1 hb, S0.out.2.2.1.below hb S0.out.2.2.1.lt, S0.out.2.2.2.1.below hb, S0.out.2.2.2.2⟩
  clear hb S0
  by_cases hE : E0 = 0
  · subst hE
    have hgk : isE v = false ∧ v ∈ G.keys := by
      unfold Gm.fnd at hE0
      split at hE0
      · cases hE0
      · rename_i h1
        split at hE0
        · exact ⟨by simpa using h1, by assumption⟩
        · cases hE0
    obtain ⟨l, hl⟩ := Option.isSome_iff_exists.1 (get_some.trans (decide_eq_true hgk.2))
    have hl1 := get_mem hl
    have hEE : E = if y ∉ l.p.kills then 111 else 0 := by
      rw [← HE.out]
      show unkillE G.ps v y = _
      unfold unkillE
      rw [← get_ps, hl, hgk.1]
      rfl
    have HL : Hid (l ∈ G.ls ∧ l.p.v = v) := hl1
    have HEE := hid_of hEE
    rw [if_pos rfl, hl]
    clear hl hl1 hgk hE0 hEE
    obtain ⟨kb, hkb⟩ : ∃ kb, l.kb = kb := ⟨_, rfl⟩
    have HKB := hid_of hkb
    have ck : V.cell? ⟨l.blk, 35, none⟩ = some (.map kb) := by
      rw [← hkb]
      refine (S1.out.2.2.1.ln HL.out.1).cell ?_
      have hd := ((S1.out.2.2.1.ok l HL.out.1).down).1
      unfold Ln.cells
      rw [List.getElem?_cons_succ, List.getElem?_cons_succ, List.getElem?_append_right (by rw [Vx.len hd]; exact Nat.le_refl 33), Vx.len hd]
      rfl
    obtain ⟨B, hB⟩ : ∃ B, decide (y ∈ l.p.kills) = B := ⟨_, rfl⟩
    have HBB := hid_of hB
    have HK : Hid (∀ U1, Below V.heap.size V U1 → (Instr.lookup 84 (.map kb) (.agg Y.toArray) true).run Try.prog U1 = .ok (.tuple #[.agg #[], .bool B]) U1) := by
      intro U1 hb1
      rw [← HYY.out.2]
      cases hk : kb with
      | none =>
        have hno := (S1.out.2.2.1.ok l HL.out.1).no (by rw [HKB.out, hk])
        have : B = false := by rw [← hB, hno]; rfl
        rw [this]
        exact lookn HYY.out.1 U1
      | some k =>
        have hm := (S1.out.2.2.1.kl HL.out.1 (k := k) (by rw [HKB.out, hk])).same (hb1.block k (S1.out.2.2.1.kl HL.out.1 (k := k) (by rw [HKB.out, hk])).lt)
        have h9 := hm.look2 (t := 84) (E := 90) (h := y) Try.underlying84 HYY.out.1 (zero90 U1)
        rw [unitH_eq, khas_unit, kget_unit] at h9
        by_cases hm2 : y ∈ l.p.kills
        · simp only [hm2, decide_true] at h9 hB
          subst hB
          exact h9
        · simp only [hm2, decide_false] at h9 hB
          subst hB
          exact h9
    clear hkb hB
    obtain ⟨lb, hlb⟩ : ∃ b, l.blk = b := ⟨_, rfl⟩
    have HLB := hid_of hlb
    rw [hlb] at ck
    rw [show ptrOf (some l) = .pointer (some ⟨lb, 0, none⟩) by rw [← hlb]; rfl]
    clear hlb
    have HBL : Hid (lb < V.heap.size ∧ d5 < V.heap.size) := ⟨by rw [← HLB.out]; exact (S1.out.2.2.1.ln HL.out.1).lt, S1.out.2.1.lt⟩
    go_wp2_with fail
    refine kl28_4 HBL ck S1.out.2.1.range0 HI7 HK ?_
    intro V2 q hb
    have S2 : Hid (Below w.heap.size w V2 ∧ Blk V2 d5 32 Y ∧ GAt V2 p G ∧ w.heap.size ≤ d5) := ⟨below_tr S1.out.1 hb, S1.out.2.1.below hb S1.out.2.1.lt, S1.out.2.2.1.below hb, S1.out.2.2.2⟩
    have ck2 : V2.cell? ⟨lb, 35, none⟩ = some (.map kb) := (hb.cell (p := ⟨lb, 35, none⟩) HBL.out.1).trans ck
    clear ck hb HK
    cases B with
    | false =>
      have hm : y ∉ l.p.kills := of_decide_eq_false HBB.out
      have HE1 : Hid (E = 111) := by rw [HEE.out, if_pos hm]; rfl
      clear hm
      go_wp2
      go_ret
      refine ⟨by rw [HE1.out]; rfl, G, .same HG0.out S2.out.1, ?_⟩
      rw [← HPS.out, if_neg (by rw [HE1.out]; decide)]
    | true =>
      have hm : y ∈ l.p.kills := of_decide_eq_true HBB.out
      have HE1 : Hid (E = 0 ∧ y ∈ l.p.kills) := ⟨by rw [HEE.out, if_neg (by simpa using hm)], hm⟩
      cases kb with
      | none =>
        have hno := (S2.out.2.2.1.ok l HL.out.1).no HKB.out
        rw [hno] at hm
        cases hm
      | some m =>
        clear hm
        have HM0 : Hid (MP V2 m (unitK l.p.kills)) := S2.out.2.2.1.kl HL.out.1 HKB.out
        have hnd := S2.out.2.2.1.ln_nd HL.out.1
        rw [Ln.bl_eq, HKB.out] at hnd
        have HND : Hid (lb ≠ m ∧ l.rb ≠ m) := by
          rw [HLB.out] at hnd
          simp only [Option.toList, List.nodup_cons, List.mem_cons, List.not_mem_nil, or_false, not_or] at hnd
          exact ⟨hnd.1.2, hnd.2.1⟩
        clear hnd
        go_wp2_with fail
        have HD5 : Hid (d5 ≠ m) := by
          show d5 ≠ m
          intro e
          obtain ⟨es, ⟨clock, hb, _⟩, _⟩ := HM0.out
          have h9 := S2.out.2.1
          unfold Blk at h9
          rw [e, hb] at h9
          cases h9
        refine kl28_7 (y := y) (m := m) ⟨by rw [← HLB.out]; exact (S2.out.2.2.1.ln HL.out.1).lt, S2.out.2.1.lt⟩ ⟨HND.out.1, HD5.out⟩ ck2 S2.out.2.1.range0 HI7 HYY HM0 ?_
        intro V4 hk hm
        have HF : Hid (∃ G', GAfter w p G G' V4 ∧ G'.ps = turnP (fun l => l.filter (fun x => decide (x ≠ y))) G.ps v) := by
          obtain ⟨C, D, hs⟩ := split_at HL.out.1
          refine ⟨_, (S2.out.2.2.1.turn (l' := { l with p := { l.p with kills := l.p.kills.filter (fun x => decide (x ≠ y)) } }) hs (hk.mono (fun j _ e => ?_)) rfl rfl (fun k hk => .inl hk) (show l.bl.Nodup from S2.out.2.2.1.ln_nd HL.out.1) ?_ ?_).first S2.out.1, ?_⟩
          · rw [e, Ln.bl_eq, HKB.out]
            simp
          · intro x hx
            unfold Ln.hp at hx
            rcases List.mem_cons.1 hx with rfl | hx
            · exact (hk.block _ (S2.out.2.2.1.ln HL.out.1).lt (by show ¬ l.blk = m; rw [HLB.out]; exact HND.out.1)).trans (S2.out.2.2.1.ln HL.out.1)
            rcases List.mem_cons.1 hx with rfl | hx
            · exact (hk.block _ (S2.out.2.2.1.row HL.out.1).lt HND.out.2).trans (S2.out.2.2.1.row HL.out.1)
            · simp only [HKB.out, killHp, List.mem_singleton] at hx
              subst hx
              rw [kdel_unit'] at hm
              exact hm
          · have ho := S2.out.2.2.1.ok l HL.out.1
            exact ⟨ho.v, ho.fr, ho.down, ho.ne, ho.row, ho.cap, ho.big, ho.len, fun h => by rw [show _ = l.kb from rfl, HKB.out] at h; cases h⟩
          · have hnd := S2.out.2.2.1.nodup
            unfold Gm.keys at hnd
            rw [hs] at hnd
            have := turn_ls (A := C) (B := D) (l := l) (fun l => l.filter (fun x => decide (x ≠ y))) hnd { l with p := { l.p with kills := l.p.kills.filter (fun x => decide (x ≠ y)) } } rfl
            unfold Gm.ps
            rw [hs, ← HL.out.2]
            exact this
        clear hk hm
        go_wp2
        go_ret
        refine ⟨by rw [HE1.out.1]; rfl, ?_⟩
        obtain ⟨G', h1, h2⟩ := HF.out
        exact ⟨G', h1, by rw [h2, ← HPS.out, if_pos HE1.out.1]⟩
  · have HEN : Hid (E = E0 ∧ E0 ≠ 0) := by
      refine ⟨?_, hE⟩
      rw [← HE.out, ← hE0]
      unfold Gm.fnd unkillE
      rw [← get_ps]
      unfold Gm.fnd at hE0
      by_cases h1 : isE v = true
      · simp [h1]
      · have h1' : isE v = false := by simpa using h1
        rw [h1'] at hE0 ⊢
        by_cases h2 : v ∈ G.keys
        · exact absurd (by rw [← hE0]; simp [h2]) hE
        · have h3 : G.get v = none := by
            have h4 := get_some (G := G) (v := v)
            rw [decide_eq_false h2] at h4
            cases hg : G.get v with
            | none => rfl
            | some l => rw [hg] at h4; cases h4
          simp [h2, h3]
    have q1 : ¬ E0 = 0 := hE
    rw [if_neg hE]
    clear hE hE0
    go_wp2
    go_ret
    refine ⟨by rw [HEN.out.1]; rfl, G, .same HG0.out S1.out.1, ?_⟩
    rw [← HPS.out, if_neg (by rw [HEN.out.1]; exact HEN.out.2)]
end Go.Proofs.Ytjcihaohpbmogaa.Oct

/- Layer 11 (lines): isNeeded. -/
namespace Go.Proofs.Ytjcihaohpbmogaa.Oct
open Go.RowKit
set_option maxRecDepth 100000
set_option linter.unusedSimpArgs false
set_option linter.unusedVariables false
set_option linter.unusedSectionVars false

def needQ (S : List Vx) (q : PL) : Bool := !decide (q.v ∈ S) && (decide (q.fr.headD vTop ∈ S) || decide (q.down ∈ S))
def needP (ps : List PL) (S : List Vx) : Bool := ps.any (needQ S)
theorem wpList_st0 {ops : Array Oper} {rest : List Oper} {o : Oper} {a : Act} {w : World} {Q : Exit → Act → World → Prop} (hg : o.guard = none) (x y : Operand) (hop : o.op = .store 90 x y) (b : Nat) (hx : a.eval x = .pointer (some ⟨b, 0, none⟩)) (hy : a.eval y = .agg #[])
    (hK : wpList Try.prog ops Q rest (a.put o.dst undef) w) : wpList Try.prog ops Q (o :: rest) a w := by
  refine wpList_plain hg fun K' hK' => ?_
  have hs : (sizeOf 90).run Try.prog w = .ok 0 w := by kernel_rfl
  unfold Oper.wp execOp
  simp [hop, hx, hy, Instr.storeAt, Instr.sureAddr, storeVar, hs, Value.cells, storeCells, Result.andThen]
  exact hK' _ _ hK
theorem look99 {w : World} {m : Nat} {S : List Vx} (h : MP w m (unitK S)) {v : Vx} (hv : Vk v) (B : Bool) (hB : decide (v ∈ S) = B) : (Instr.lookup 99 (.map (some m)) (.agg v.cells.toArray) true).run Try.prog w = .ok (.tuple #[.agg #[], .bool B]) w := by
  have h9 := h.look2 (t := 99) (E := 90) (h := v) Try.underlying99 hv (zero90 w)
  rw [khas_unit, kget_unit, hB] at h9
  exact h9
theorem blk_down {w : World} {l : Ln} (h : Blk w l.blk 86 l.cells) : w.rangeAt l.blk 2 l.p.down.cells := by
  have h0 := h.range0
  unfold Ln.cells at h0
  have e : Value.string l.p.t :: Value.slice (some ⟨l.rb, 0, none⟩) l.p.fr.length l.cap :: (l.p.down.cells ++ [.map l.kb]) = [Value.string l.p.t, Value.slice (some ⟨l.rb, 0, none⟩) l.p.fr.length l.cap] ++ (l.p.down.cells ++ [.map l.kb]) := rfl
  rw [e] at h0
  have h1 := rangeAt_right h0
  simpa using rangeAt_left h1
set_option maxHeartbeats 4000000 in
theorem needed_is {w : World} {p : Nat} {G : Gm} (h : GAt w p G) (hne : ∀ l ∈ G.ls, l.p.fr ≠ []) (gm : Nat) (S : List Vx) (hm : MP w gm (unitK S)) (B : Bool) (hB : needP G.ps S = B) : Calls Try.prog 56 #[.pointer (some ⟨p, 0, none⟩), .map (some gm)] w fun e w' => e = .returned (.bool B) ∧ Below w.heap.size w w' := by
  have c0 : w.cell? ⟨p, 0, none⟩ = some (.map (some G.mb)) := h.blk.cell rfl
  obtain ⟨es, hes, hkv⟩ := h.mp
  have HS : Hid (GAt w p G ∧ HM w G.mb es ∧ es.map (fun e => (e.k, e.v)) = linesKv G.ls ∧ MP w gm (unitK S)) := ⟨h, hes, hkv, hm⟩
  have HES : Hid (∀ e ∈ es, ∃ l ∈ G.ls, e.k = l.p.v ∧ e.v = .pointer (some ⟨l.blk, 0, none⟩)) := by
    intro e he
    have h1 : (e.k, e.v) ∈ linesKv G.ls := by rw [← hkv]; exact List.mem_map.2 ⟨e, he, rfl⟩
    unfold linesKv at h1
    obtain ⟨l, hl, h2⟩ := List.mem_map.1 h1
    exact ⟨l, hl, (congrArg Prod.fst h2).symm, (congrArg Prod.snd h2).symm⟩
  have HBB : Hid (needP G.ps S = B) := hB
  have HNE : Hid (∀ l ∈ G.ls, l.p.fr ≠ []) := hne
  have hz90 := zero90
  obtain ⟨Z, hZ, HZ⟩ := zval34
  clear h hes hkv hm hB hne
  generalize hmb : G.mb = mb at c0
  have HMB : Hid (G.mb = mb) := hmb
  clear hmb
  go_enter Try.func56, Try.ntmps56
  go_wp2_with (with_reducible change wpList _ _ _ ({ dst := some 17, op := _, type := _, pos := _, after := _, guard := _ } :: _) _ _; refine Hid.out ?_)
  show wpList _ _ _ _ _ _
  obtain ⟨r, hr⟩ : ∃ r, w.heap.size = r := ⟨_, rfl⟩
  have HR0 : Hid (w.heap.size = r) := hr
  refine wpList_range rfl 65 (.tmp 16) rfl (K := Vx) (E := 71) Try.underlying65 mb es rfl (by rw [← HMB.out]; exact HS.out.2.1) ?_
  intro w2 r1 r2 r3
  rw [hr] at r1
  rw [hr]
  have H2 : Hid (HMR w2 mb r es es ∧ Below w.heap.size w w2) := ⟨r1, r2⟩
  clear r1 r2 r3 hr c0
  simp only [Act.put, List.setIfInBounds_toArray, List.set_cons_zero, List.set_cons_succ]
  go_wp2
  go_loopw [5] (fun u wr => ∃ (left : List (Ent Vx)), Hid (HMR wr mb r es left ∧ Below w.heap.size w wr ∧ ∀ l ∈ G.ls, (∃ e ∈ left, e.k = l.p.v) ∨ needQ S l.p = false)) (fun _ wr => wr.rangeLeft mb r)
  case atStart =>
    refine ⟨es, H2.out.1, H2.out.2, fun l hl => .inl ?_⟩
    have h1 : (l.p.v, Value.pointer (some ⟨l.blk, 0, none⟩)) ∈ linesKv G.ls := List.mem_map.2 ⟨l, hl, rfl⟩
    rw [← HS.out.2.2.1] at h1
    obtain ⟨e, he, h2⟩ := List.mem_map.1 h1
    exact ⟨e, he, congrArg Prod.fst h2⟩
  case round =>
    obtain ⟨V, hV⟩ : ∃ V, V = wr := ⟨_, rfl⟩
    subst hV
    obtain ⟨left, HI⟩ := hrel
    have HLL : Hid (V.rangeLeft mb r = left.length) := HI.out.1.left
    rcases HI.out.1.next 0 with ⟨h0, hrun⟩ | ⟨e, left', w3, he, hp, hrun, h3, hg3, hz3, hen⟩
    · have HE : Hid (B = false) := by
        show _ = _
        rw [← HBB.out]
        unfold needP
        rw [List.any_eq_false]
        intro q hq
        unfold Gm.ps at hq
        obtain ⟨l, hl, rfl⟩ := List.mem_map.1 hq
        rcases HI.out.2.2 l hl with ⟨e, he, _⟩ | h
        · rw [h0] at he; cases he
        · rw [h]; decide
      clear h0
      go_wp2_with fail
      clear hrun
      go_wp2
      go_ret
      exact ⟨by rw [HE.out]; rfl, HI.out.2.1⟩
    · have hrun' : (Instr.next (.pointer (some ⟨r, 0, none⟩)) false 0).run Try.prog V = .ok (.tuple #[.bool true, .agg e.k.cells.toArray, e.v]) w3 := hrun
      have hen' : (Instr.entry (.pointer (some ⟨r, 0, none⟩))).run Try.prog w3 = .ok (.tuple #[.agg e.k.cells.toArray, e.v]) w3 := hen
      have hek : e ∈ es := by
        obtain ⟨clock, seen, _, _, hl, _⟩ := HI.out.1
        rw [hl] at he
        exact (List.mem_filter.1 he).1
      obtain ⟨l, hl, hk, hv⟩ := HES.out e hek
      have hBw : Below w.heap.size w w3 := HI.out.2.1.grown hg3 HI.out.2.1.size (fun j hj => by have e := Option.some.inj hj; have := HR0.out; omega)
      have ho := HS.out.1.ok l hl
      have HE : Hid (l ∈ G.ls ∧ HMR w3 mb r es left' ∧ Below w.heap.size w w3 ∧ Vk l.p.v ∧ left'.length < left.length ∧ (∀ x ∈ G.ls, x = l ∨ (∃ e ∈ left', e.k = x.p.v) ∨ needQ S x.p = false)) := by
        refine ⟨hl, h3, hBw, ho.v, by rw [hp.length_eq]; simp, fun x hx => ?_⟩
        rcases HI.out.2.2 x hx with ⟨e2, he2, hk2⟩ | h
        · rcases List.mem_cons.1 (hp.mem_iff.1 he2) with rfl | h9
          · refine .inl ?_
            have a1 := get_is HS.out.1 hx
            have a2 := get_is HS.out.1 hl
            rw [← hk2, hk, a2] at a1
            exact (Option.some.inj a1).symm
          · exact .inr (.inl ⟨e2, h9, hk2⟩)
        · exact .inr (.inr h)
      rw [hk, hv] at hrun' hen'
      clear hrun hen he hp h3 hg3 hz3 hek hl hk hv hBw ho
      go_wp2_with (first
        | (with_reducible change wpList _ _ _ ({ dst := none, op := Op.store 34 _ _, type := _, pos := _, after := _, guard := _ } :: _) _ _
           refine Hid.out ?_)
        | fail)
      show wpList _ _ _ _ _ _
      refine wpList_store_fresh rfl 34 (.tmp 5) (.tmp 21) rfl Z l.p.v.cells 34 rfl rfl (by rw [Vx.len HE.out.2.2.2.1.1, HZ.out]) (info34 HE.out.2.2.2.1.1) (Vx.one l.p.v) ?_
      obtain ⟨U1, hU1⟩ : ∃ W, w3.alloc (.cells l.p.v.cells.toArray 34) = W := ⟨_, rfl⟩
      obtain ⟨d5, hd5⟩ : ∃ g, w3.heap.size = g := ⟨_, rfl⟩
      have S1 : Hid (Below w.heap.size w U1 ∧ HMR U1 mb r es left' ∧ Blk U1 d5 34 l.p.v.cells ∧ MP U1 gm (unitK S) ∧ GAt U1 p G) := by
        have hbl : Below w3.heap.size w3 U1 := by rw [← hU1]; exact below_al _ _
        have hb := below_tr HE.out.2.2.1 hbl
        exact ⟨hb, HE.out.2.1.below hbl, by rw [← hU1, ← hd5]; exact Blk.new w3 _ _, HS.out.2.2.2.same (hb.block gm HS.out.2.2.2.lt), HS.out.1.below hb⟩
      rw [hU1, hd5]
      clear hU1 hd5 hrun' hen'
      obtain ⟨B1, hB1⟩ : ∃ B, decide (l.p.v ∈ S) = B := ⟨_, rfl⟩
      have HB1 := hid_of hB1
      have hk1 := look99 S1.out.2.2.2.1 HE.out.2.2.2.1 B1 hB1
      clear hB1
      go_wp2_with (first
        | (with_reducible change wpList _ _ _ ({ dst := some 25, op := _, type := _, pos := _, after := _, guard := _ } :: _) _ _
           refine wpList_load_want rfl 34 (.tmp 5) rfl d5 0 rfl l.p.v.cells _ S1.out.2.2.1.range0 Try.underlying34 rfl (info34 HE.out.2.2.2.1.1) ?_)
        | (with_reducible change wpList _ _ _ ({ dst := some 26, op := _, type := _, pos := _, after := _, guard := _ } :: _) _ _
           refine wpList_lookup rfl 99 (.tmp 24) (.tmp 25) true rfl _ _ _ rfl rfl hk1 ?_)
        | (with_reducible change wpList _ _ _ ({ dst := none, op := Op.store 90 _ _, type := _, pos := _, after := _, guard := _ } :: _) _ _
           refine Hid.out ?_)
        | fail)
      show wpList _ _ _ _ _ _
      obtain ⟨U2, hU2⟩ : ∃ W, U1.alloc (.cells #[] 90) = W := ⟨_, rfl⟩
      obtain ⟨d7, hd7⟩ : ∃ g, U1.heap.size = g := ⟨_, rfl⟩
      have S2 : Hid (Below w.heap.size w U2 ∧ HMR U2 mb r es left' ∧ MP U2 gm (unitK S) ∧ GAt U2 p G) := by
        have hbl : Below U1.heap.size U1 U2 := by rw [← hU2]; exact below_al _ _
        exact ⟨below_tr S1.out.1 hbl, S1.out.2.1.below hbl, S1.out.2.2.2.1.same (hbl.block gm S1.out.2.2.2.1.lt), S1.out.2.2.2.2.below hbl⟩
      try rw [hU2]
      try rw [hd7]
      clear hU2 hd7 hk1 S1
      refine wpList_st0 rfl (.tmp 7) (.tmp 27) rfl _ rfl rfl ?_
      cases B1 with
      | true =>
        have HQ : Hid (needQ S l.p = false) := by
          show needQ S l.p = false
          unfold needQ
          rw [HB1.out]
          try rfl
        go_wp2
        refine ⟨⟨left', ?_, ?_, fun x hx => ?_⟩, ?_⟩
        · exact (S2.out).2.1
        · exact (S2.out).1
        · rcases HE.out.2.2.2.2.2 x hx with rfl | h | h
          · exact .inr HQ.out
          · exact .inl h
          · exact .inr h
        · rw [HLL.out, (S2.out).2.1.left]
          exact HE.out.2.2.2.2.1
      | false =>
        obtain ⟨v0, fr', hfr⟩ : ∃ v0 fr', l.p.fr = v0 :: fr' := List.exists_cons_of_ne_nil (HNE.out l HE.out.1)
        have hv0 : Vk v0 := (HS.out.1.ok l HE.out.1).fr v0 (by rw [hfr]; simp)
        have HF : Hid (l.p.fr.headD vTop = v0 ∧ Vk v0 ∧ Vk l.p.down ∧ 0 < l.p.fr.length) := ⟨by rw [hfr]; rfl, hv0, (HS.out.1.ok l HE.out.1).down, by rw [hfr]; simp⟩
        have HR0' : Hid (U2.rangeAt l.rb 0 v0.cells) := by
          have h1 := (S2.out.2.2.2.row HE.out.1).range0
          rw [hfr] at h1
          have h2 := rangeAt_left h1
          have e : FV (v0 :: fr') = v0.cells ++ FV fr' := rfl
          rw [e] at h2
          exact rangeAt_left h2
        have c1 : U2.cell? ⟨l.blk, 1, none⟩ = some (.slice (some ⟨l.rb, 0, none⟩) l.p.fr.length l.cap) := (S2.out.2.2.2.ln HE.out.1).cell rfl
        clear hfr hv0
        obtain ⟨nf, hnf⟩ : ∃ n, l.p.fr.length = n := ⟨_, rfl⟩
        rw [hnf] at c1
        have q1 : (0 : Int) < (nf : Int) := by have := HF.out.2.2.2; omega
        have q1' : 0 < nf := by have := HF.out.2.2.2; omega
        clear hnf
        obtain ⟨B2, hB2⟩ : ∃ B, decide (v0 ∈ S) = B := ⟨_, rfl⟩
        have HB2 := hid_of hB2
        have hk2 := look99 S2.out.2.2.1 HF.out.2.1 B2 hB2
        clear hB2
        go_wp2_with (first
          | (with_reducible change wpList _ _ _ ({ dst := some 37, op := _, type := _, pos := _, after := _, guard := _ } :: _) _ _
             refine wpList_load_want rfl 34 (.tmp 36) rfl l.rb 0 rfl v0.cells _ HR0'.out Try.underlying34 rfl (info34 HF.out.2.1.1) ?_)
          | (with_reducible change wpList _ _ _ ({ dst := some 38, op := _, type := _, pos := _, after := _, guard := _ } :: _) _ _
             refine wpList_lookup rfl 99 (.tmp 31) (.tmp 37) true rfl _ _ _ rfl rfl hk2 ?_)
          | (with_reducible change wpList _ _ _ ({ dst := none, op := Op.store 90 _ _, type := _, pos := _, after := _, guard := _ } :: _) _ _
             refine Hid.out ?_)
          | fail)
        show wpList _ _ _ _ _ _
        obtain ⟨U3, hU1⟩ : ∃ W, U2.alloc (.cells #[] 90) = W := ⟨_, rfl⟩
        obtain ⟨d9, hd⟩ : ∃ g, U2.heap.size = g := ⟨_, rfl⟩
        have S3 : Hid (Below w.heap.size w U3 ∧ HMR U3 mb r es left' ∧ MP U3 gm (unitK S) ∧ GAt U3 p G) := by
          have hbl : Below U2.heap.size U2 U3 := by rw [← hU1]; exact below_al _ _
          exact ⟨below_tr S2.out.1 hbl, S2.out.2.1.below hbl, S2.out.2.2.1.same (hbl.block gm S2.out.2.2.1.lt), S2.out.2.2.2.below hbl⟩
        try rw [hU1]
        try rw [hd]
        clear hU1 hd
        refine wpList_st0 rfl (.tmp 9) (.tmp 39) rfl _ rfl rfl ?_
        clear hk2 c1 HR0'
        obtain ⟨B3, hB3⟩ : ∃ B, decide (l.p.down ∈ S) = B := ⟨_, rfl⟩
        have HB3 := hid_of hB3
        have hk3 := look99 S3.out.2.2.1 HF.out.2.2.1 B3 hB3
        have HRD : Hid (U3.rangeAt l.blk 2 l.p.down.cells) := blk_down (S3.out.2.2.2.ln HE.out.1)
        clear hB3
        go_wp2_with (first
          | (with_reducible change wpList _ _ _ ({ dst := some 46, op := _, type := _, pos := _, after := _, guard := _ } :: _) _ _
             refine wpList_load_want rfl 34 (.tmp 45) rfl l.blk 2 rfl l.p.down.cells _ HRD.out Try.underlying34 rfl (info34 HF.out.2.2.1.1) ?_)
          | (with_reducible change wpList _ _ _ ({ dst := some 47, op := _, type := _, pos := _, after := _, guard := _ } :: _) _ _
             refine wpList_lookup rfl 99 (.tmp 42) (.tmp 46) true rfl _ _ _ rfl rfl hk3 ?_)
          | (with_reducible change wpList _ _ _ ({ dst := none, op := Op.store 90 _ _, type := _, pos := _, after := _, guard := _ } :: _) _ _
             refine Hid.out ?_)
          | fail)
        show wpList _ _ _ _ _ _
        obtain ⟨U4, hU1⟩ : ∃ W, U3.alloc (.cells #[] 90) = W := ⟨_, rfl⟩
        obtain ⟨d11, hd⟩ : ∃ g, U3.heap.size = g := ⟨_, rfl⟩
        have S4 : Hid (Below w.heap.size w U4 ∧ HMR U4 mb r es left' ∧ MP U4 gm (unitK S) ∧ GAt U4 p G) := by
          have hbl : Below U3.heap.size U3 U4 := by rw [← hU1]; exact below_al _ _
          exact ⟨below_tr S3.out.1 hbl, S3.out.2.1.below hbl, S3.out.2.2.1.same (hbl.block gm S3.out.2.2.1.lt), S3.out.2.2.2.below hbl⟩
        try rw [hU1]
        try rw [hd]
        clear hU1 hd
        refine wpList_st0 rfl (.tmp 11) (.tmp 48) rfl _ rfl rfl ?_
        clear hk3 HRD
        have HY : Hid ((B2 || B3) = true → B = true) := fun h => by
          rw [← HBB.out]
          unfold needP
          rw [List.any_eq_true]
          refine ⟨l.p, List.mem_map.2 ⟨l, HE.out.1, rfl⟩, ?_⟩
          unfold needQ
          rw [HB1.out, HF.out.1, HB2.out, HB3.out]
          simpa using h
        cases B2 with
        | true =>
          have HT : Hid (B = true) := HY.out rfl
          go_wp2
          go_ret
          exact ⟨by rw [HT.out]; rfl, S4.out.1⟩
        | false =>
          cases B3 with
          | true =>
            have HT : Hid (B = true) := HY.out rfl
            go_wp2
            go_ret
            exact ⟨by rw [HT.out]; rfl, S4.out.1⟩
          | false =>
            have HQ : Hid (needQ S l.p = false) := by
              show needQ S l.p = false
              unfold needQ
              rw [HB1.out, HF.out.1, HB2.out, HB3.out]
              try rfl
            go_wp2
            refine ⟨⟨left', ?_, ?_, fun x hx => ?_⟩, ?_⟩
            · exact (S4.out).2.1
            · exact (S4.out).1
            · rcases HE.out.2.2.2.2.2 x hx with rfl | h | h
              · exact .inr HQ.out
              · exact .inl h
              · exact .inr h
            · rw [HLL.out, (S4.out).2.1.left]
              exact HE.out.2.2.2.2.1
end Go.Proofs.Ytjcihaohpbmogaa.Oct
