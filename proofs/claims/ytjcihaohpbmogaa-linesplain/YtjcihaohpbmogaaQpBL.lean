/-
  Layer 11 (lines): Drop.
-/
import Derived.Test.YtjcihaohpbmogaaQpAS
/- Layer 11 (lines): Drop. -/
namespace Go.Proofs.Ytjcihaohpbmogaa.Oct
open Go.RowKit
set_option maxRecDepth 100000
set_option linter.unusedSimpArgs false
set_option linter.unusedVariables false
set_option linter.unusedSectionVars false

set_option maxRecDepth 100000 in
set_option maxHeartbeats 4000000 in
theorem dr14 {Q : Exit → Act → World → Prop} {x1 x2 x3 x4 x5 x6 x7 x9 x10 x11 x12 x13 x14 x15 x16 x17 x18 x19 x20 x21 x22 x23 x24 x25 x26 x27 x28 x29 x30 x31 x32 x33 x34 x35 x36 x37 x38 x39 x40 x41 x42 x43 x44 : Value} {ds : List Deferred} {A : World} {p d8 m : Nat} {y : Vx} {M : Kv Vx}
    (HL : Hid (p < A.heap.size ∧ d8 < A.heap.size)) (HN : Hid ((¬ p = m) ∧ ¬ d8 = m)) (c0 : A.cell? ⟨p, 0, none⟩ = some (.map (some m))) (HR : Hid (A.rangeAt d8 0 y.cells)) (HV : Hid (Vk y)) (HM : Hid (MP A m M))
    (hQ : ∀ V1, Keep (fun k => k = m) A V1 → MP V1 m (kdel M y) → Q .normal { tmps := #[.pointer (some ⟨p, 0, none⟩), x1, x2, x3, x4, x5, x6, x7, .pointer (some ⟨d8, 0, none⟩), x9, x10, x11, x12, x13, x14, x15, x16, x17, x18, x19, x20, x21, x22, x23, x24, x25, x26, x27, x28, x29, x30, x31, x32, x33, x34, x35, x36, x37, x38, .pointer (some ⟨p, 0, none⟩), .pointer (some ⟨p, 0, none⟩), .pointer (some ⟨p, 0, none⟩), .map (some m), .agg y.cells.toArray, x44], defers := ds } V1) :
    (Code.region 14 #[{ dst := some 39, op := Op.move (Operand.tmp 0), type := 25, pos := "change.go:72", after := #[], guard := none }, { dst := some 40, op := Op.nilCheck (Operand.tmp 39), type := 0, pos := "change.go:72", after := #[{ on := 0, ground := Ground.data }], guard := none }, { dst := some 41, op := Op.fieldAddr 67 (Operand.tmp 40) 0, type := 0, pos := "change.go:72", after := #[{ on := 1, ground := Ground.data }], guard := none }, { dst := some 42, op := Op.load 65 (Operand.tmp 41), type := 65, pos := "change.go:72", after := #[{ on := 2, ground := Ground.data }], guard := none }, { dst := some 43, op := Op.load 34 (Operand.tmp 8), type := 34, pos := "change.go:72", after := #[], guard := none }, { dst := none, op := Op.call { callee := Callee.builtin Builtin.delete, args := #[Operand.tmp 42, Operand.tmp 43], argTypes := #[65, 34] }, type := 0, pos := "change.go:72", after := #[{ on := 3, ground := Ground.data }, { on := 4, ground := Ground.data }], guard := none }] true).wp Try.prog Q { tmps := #[.pointer (some ⟨p, 0, none⟩), x1, x2, x3, x4, x5, x6, x7, .pointer (some ⟨d8, 0, none⟩), x9, x10, x11, x12, x13, x14, x15, x16, x17, x18, x19, x20, x21, x22, x23, x24, x25, x26, x27, x28, x29, x30, x31, x32, x33, x34, x35, x36, x37, x38, x39, x40, x41, x42, x43, x44], defers := ds } A := by
  refine Code.wp_mono (Q := fun x a' w' => match x with | .normal => Q .normal a' w' | _ => False) (by intro x a' w' h; cases x <;> first | exact h | exact h.elim) ?_
  refine wp_region_held (S := fun V => Keep (fun k => k = m) A V) (by kernel_rfl) ?_
  have hS0 : Hid (Keep (fun k => k = m) A A.drew) := (Keep.refl _ A).drew
  change wpAnyH Try.prog .any _ _ (fun V => Keep (fun k => k = m) A V) 6 (Array.replicate 6 false) _ A.drew
  obtain ⟨V0, hV0⟩ : ∃ V0, A.drew = V0 := ⟨_, rfl⟩
  rw [hV0]
  rw [hV0] at hS0
  have hM0 : Hid (MP V0 m M) := by
    show MP V0 m M
    rw [← hV0]
    exact HM.out.same rfl
  clear hV0
  refine wpAnyH_take (i := 0) (oi := { dst := some 39, op := Op.move (Operand.tmp 0), type := 25, pos := "change.go:72", after := #[], guard := none }) (v := .pointer (some ⟨p, 0, none⟩)) rfl (by kernel_rfl) (by kernel_rfl) (by kernel_rfl) (fun _ _ _ h => h.elim) (Or.inl ⟨by rfl, ?y1⟩) hS0.out ?_
  case y1 =>
    intro V hV
    go_simp
  simp only [Act.put, List.setIfInBounds_toArray, List.set_cons_zero, List.set_cons_succ]
  refine wpAnyH_take (i := 1) (oi := { dst := some 40, op := Op.nilCheck (Operand.tmp 39), type := 0, pos := "change.go:72", after := #[{ on := 0, ground := Ground.data }], guard := none }) (v := .pointer (some ⟨p, 0, none⟩)) rfl (by kernel_rfl) (by kernel_rfl) (by kernel_rfl) (fun _ _ _ h => h.elim) (Or.inl ⟨by rfl, ?y2⟩) hS0.out ?_
  case y2 =>
    intro V hV
    go_simp
  simp only [Act.put, List.setIfInBounds_toArray, List.set_cons_zero, List.set_cons_succ]
  refine wpAnyH_take (i := 2) (oi := { dst := some 41, op := Op.fieldAddr 67 (Operand.tmp 40) 0, type := 0, pos := "change.go:72", after := #[{ on := 1, ground := Ground.data }], guard := none }) (v := .pointer (some ⟨p, 0, none⟩)) rfl (by kernel_rfl) (by kernel_rfl) (by kernel_rfl) (fun _ _ _ h => h.elim) (Or.inl ⟨by rfl, ?y3⟩) hS0.out ?_
  case y3 =>
    intro V hV
    go_simp
  simp only [Act.put, List.setIfInBounds_toArray, List.set_cons_zero, List.set_cons_succ]
  refine wpAnyH_take (i := 3) (oi := { dst := some 42, op := Op.load 65 (Operand.tmp 41), type := 65, pos := "change.go:72", after := #[{ on := 2, ground := Ground.data }], guard := none }) (v := .map (some m)) rfl (by kernel_rfl) (by kernel_rfl) (by kernel_rfl) (fun _ _ _ h => h.elim) (Or.inl ⟨by rfl, ?y4⟩) hS0.out ?_
  case y4 =>
    intro V hV
    have hc : V.cell? ⟨p, 0, none⟩ = some (.map (some m)) := (cell_keep hV HL.out.1 HN.out.1).trans c0
    go_simp
  simp only [Act.put, List.setIfInBounds_toArray, List.set_cons_zero, List.set_cons_succ]
  refine wpAnyH_take (i := 4) (oi := { dst := some 43, op := Op.load 34 (Operand.tmp 8), type := 34, pos := "change.go:72", after := #[], guard := none }) (v := .agg y.cells.toArray) rfl (by kernel_rfl) (by kernel_rfl) (by kernel_rfl) (fun _ _ _ h => h.elim) (yieldsIf_load_mid (by rfl) _ _ rfl _ _ rfl (y.cells) _ (fun V hV => rangeAt_same (HR.out) ((show Keep (fun k => k = m) A V from hV).block _ (HL.out.2) (HN.out.2))) Try.underlying34 rfl (info34 HV.out.1)) hS0.out ?_
  simp only [Act.put, List.setIfInBounds_toArray, List.set_cons_zero, List.set_cons_succ]
  refine wpAnyH_ready (rs := [5]) (by kernel_rfl) (by simp) (AllReadyH.cons (i := 5) (o := { dst := none, op := Op.call { callee := Callee.builtin Builtin.delete, args := #[Operand.tmp 42, Operand.tmp 43], argTypes := #[65, 34] }, type := 0, pos := "change.go:72", after := #[{ on := 3, ground := Ground.data }, { on := 4, ground := Ground.data }], guard := none }) rfl ?_ AllReadyH.nil)
  · intro K1 hK1
    obtain ⟨V1, r1, r2, r3, r4⟩ := (hM0.out).del (t := 65) (E := 71) (h := y) Try.underlying65 HV.out 0
    have r1' : (Builtin.delete_ #[65, 34] 0 #[.map (some m), .agg y.cells.toArray]).run Try.prog V0 = .ok (.tuple #[]) V1 := r1
    refine step_del (by rfl) 65 34 _ _ rfl _ _ rfl rfl (.tuple #[]) V1 r1' ?_
    have hS1 : Hid (Keep (fun k => k = m) A V1 ∧ MP V1 m (kdel M y)) := ⟨(hS0.out).trans (Keep.grown (S := fun k => k = m) r3 rfl) (fun _ h _ => h), r2⟩
    clear r1 r1' r2 r3 r4
    refine hK1.out _ _ hS1.out.1 ?_
    clear hK1
    intro _
    try simp only [Act.put, List.setIfInBounds_toArray, List.set_cons_zero, List.set_cons_succ]
    refine wpAnyH_done (by kernel_rfl) ?_ _
    exact hQ V1 hS1.out.1 hS1.out.2
def drop1 (ps : List PL) (id : Vx) : List PL := match getP ps id with
  | some q => (leaveP ps q.down id).filter fun x => decide (x.v ≠ id)
  | none => ps
def dropP (ps : List PL) (ids : List Vx) : List PL := ids.foldl drop1 ps
def dropE (ps : List PL) (ids : List Vx) : Int := if mayBe ids = false then 2 else if (ids.all fun v => decide (v ∈ keysP ps)) = false then 111 else if needP ps (idSet ids) = true then 130 else 0
theorem leave_keys (ps : List PL) (d id : Vx) : keysP (leaveP ps d id) = keysP ps := by
  unfold keysP leaveP
  rw [List.map_map]
  refine List.map_congr_left fun q _ => ?_
  show (if q.v = d then { q with fr := q.fr.filter fun x => !eqVx x id } else q).v = q.v
  split <;> rfl
theorem drop1_keys {ps : List PL} {id x : Vx} (h : x ∈ keysP ps) (hne : x ≠ id) : x ∈ keysP (drop1 ps id) := by
  unfold drop1
  cases getP ps id with
  | none => exact h
  | some q =>
    have h1 : x ∈ keysP (leaveP ps q.down id) := by rw [leave_keys]; exact h
    unfold keysP at h1 ⊢
    obtain ⟨z, hz, rfl⟩ := List.mem_map.1 h1
    exact List.mem_map.2 ⟨z, List.mem_filter.2 ⟨hz, by simpa using hne⟩, rfl⟩
theorem kdel_lines {C D : List Ln} {l : Ln} (hnd : ((C ++ l :: D).map (·.p.v)).Nodup) : kdel (linesKv (C ++ l :: D)) l.p.v = linesKv (C ++ D) := by
  rw [List.map_append, List.map_cons, List.nodup_append] at hnd
  have hA : ∀ x ∈ C, x.p.v ≠ l.p.v := fun x hx e => hnd.2.2 x.p.v (List.mem_map.2 ⟨x, hx, rfl⟩) l.p.v (List.mem_cons_self) e
  have hB : ∀ x ∈ D, x.p.v ≠ l.p.v := fun x hx e => (List.nodup_cons.1 hnd.2.1).1 (e ▸ List.mem_map.2 ⟨x, hx, rfl⟩)
  unfold kdel linesKv
  rw [List.map_append, List.map_cons, List.filter_append, List.filter_cons, List.map_append]
  congr 1
  · refine List.filter_eq_self.2 fun x hx => ?_
    obtain ⟨z, hz, rfl⟩ := List.mem_map.1 hx
    simpa using hA z hz
  · rw [if_neg (by simp)]
    refine List.filter_eq_self.2 fun x hx => ?_
    obtain ⟨z, hz, rfl⟩ := List.mem_map.1 hx
    simpa using hB z hz
theorem filter_lines {C D : List Ln} {l : Ln} (hnd : ((C ++ l :: D).map (·.p.v)).Nodup) : ((C ++ l :: D).map (·.p)).filter (fun x => decide (x.v ≠ l.p.v)) = (C ++ D).map (·.p) := by
  rw [List.map_append, List.map_cons, List.nodup_append] at hnd
  have hA : ∀ x ∈ C, x.p.v ≠ l.p.v := fun x hx e => hnd.2.2 x.p.v (List.mem_map.2 ⟨x, hx, rfl⟩) l.p.v (List.mem_cons_self) e
  have hB : ∀ x ∈ D, x.p.v ≠ l.p.v := fun x hx e => (List.nodup_cons.1 hnd.2.1).1 (e ▸ List.mem_map.2 ⟨x, hx, rfl⟩)
  rw [List.map_append, List.map_cons, List.filter_append, List.filter_cons, List.map_append, if_neg (by simp)]
  congr 1
  · refine List.filter_eq_self.2 fun x hx => ?_
    obtain ⟨z, hz, rfl⟩ := List.mem_map.1 hx
    simpa using hA z hz
  · refine List.filter_eq_self.2 fun x hx => ?_
    obtain ⟨z, hz, rfl⟩ := List.mem_map.1 hx
    simpa using hB z hz
set_option maxHeartbeats 8000000 in
theorem drop_is {w : World} {p : Nat} {G : Gm} (h : GAt w p G) (hne : ∀ l ∈ G.ls, l.p.fr ≠ []) (a : Option Addr) (n c : Nat) (ids : List Vx) (hr : VsR w a n ids) (hn : n ≤ 1000000) (hap : ∀ g off, a = some ⟨g, off, none⟩ → g ∉ G.bl p) (E : Int) (hE : dropE G.ps ids = E) (PS : List PL) (hPS : (if E = 0 then dropP G.ps ids else G.ps) = PS) :
    Calls Try.prog 27 #[.pointer (some ⟨p, 0, none⟩), .slice a n c] w fun e w' => e = .returned (iv E) ∧ ∃ G', GAfter w p G G' w' ∧ G'.mb = G.mb ∧ G'.ps = PS := by
  have HS : Hid (GAt w p G ∧ (∀ l ∈ G.ls, l.p.fr ≠ []) ∧ VsR w a n ids ∧ n ≤ 1000000 ∧ (∀ g off, a = some ⟨g, off, none⟩ → g ∉ G.bl p)) := ⟨h, hne, hr, hn, hap⟩
  have HE : Hid (dropE G.ps ids = E) := hE
  have HPS : Hid ((if E = 0 then dropP G.ps ids else G.ps) = PS) := hPS
  have q0 : (n : Int) ≤ 1000000 := by omega
  obtain ⟨Z, hZ, HZ⟩ := zval34
  clear h hne hr hn hap hE hPS
  go_enter Try.func27, Try.ntmps27
  go_wp2_with fail
  obtain ⟨B1, hB1⟩ : ∃ B, mayBe ids = B := ⟨_, rfl⟩
  have HB1 := hid_of hB1
  refine (setOf_is w a n c ids HS.out.2.2.1 (by have := HS.out.2.2.2.1; omega) B1 hB1).mono ?_
  rintro e W1 ⟨gm, rfl, hgm, hM, hb⟩
  have S1 : Hid (Below w.heap.size w W1 ∧ GAt W1 p G ∧ MP W1 gm (unitK (idSet ids)) ∧ w.heap.size ≤ gm) := ⟨hb, HS.out.1.below hb, hM, hgm⟩
  clear hb hM hgm hB1
  go_wp2_with fail
  refine (made_is S1.out.2.1).mono ?_
  rintro e W2 ⟨rfl, rfl⟩
  cases B1 with
  | false =>
    have HT : Hid (E = 2) := by rw [← HE.out]; unfold dropE; rw [if_pos HB1.out]; rfl
    go_wp2
    go_ret
    exact ⟨by rw [HT.out]; rfl, G, .same HS.out.1 S1.out.1, rfl, by rw [← HPS.out, if_neg (by rw [HT.out]; decide)]⟩
  | true =>
    go_wp2_with fail
    obtain ⟨B2, hB2⟩ : ∃ B, (ids.all fun v => decide (v ∈ G.keys)) = B := ⟨_, rfl⟩
    have HB2 := hid_of hB2
    refine (areLines_is S1.out.2.1 a n c ids (HS.out.2.2.1.below S1.out.1) (by have := HS.out.2.2.2.1; omega) B2 hB2).mono ?_
    rintro e W3 ⟨rfl, hb⟩
    have S3 : Hid (Below w.heap.size w W3 ∧ GAt W3 p G ∧ MP W3 gm (unitK (idSet ids))) := ⟨below_tr S1.out.1 hb, S1.out.2.1.below hb, S1.out.2.2.1.same (hb.block gm S1.out.2.2.1.lt)⟩
    clear hb hB2
    cases B2 with
    | false =>
      have HT : Hid (E = 111) := by
        rw [← HE.out]
        unfold dropE
        rw [← keys_ps, HB1.out, HB2.out]
        rfl
      go_wp2
      go_ret
      exact ⟨by rw [HT.out]; rfl, G, .same HS.out.1 S3.out.1, rfl, by rw [← HPS.out, if_neg (by rw [HT.out]; decide)]⟩
    | true =>
      go_wp2_with fail
      obtain ⟨B3, hB3⟩ : ∃ B, needP G.ps (idSet ids) = B := ⟨_, rfl⟩
      have HB3 := hid_of hB3
      refine (needed_is S3.out.2.1 HS.out.2.1 gm (idSet ids) S3.out.2.2 B3 hB3).mono ?_
      rintro e W4 ⟨rfl, hb⟩
      have S4 : Hid (Below w.heap.size w W4 ∧ GAt W4 p G) := ⟨below_tr S3.out.1 hb, S3.out.2.1.below hb⟩
      clear hb hB3
      cases B3 with
      | true =>
        have HT : Hid (E = 130) := by
          rw [← HE.out]
          unfold dropE
          rw [← keys_ps, HB1.out, HB2.out, HB3.out]
          rfl
        go_wp2
        go_ret
        exact ⟨by rw [HT.out]; rfl, G, .same HS.out.1 S4.out.1, rfl, by rw [← HPS.out, if_neg (by rw [HT.out]; decide)]⟩
      | false =>
        have HT : Hid (E = 0 ∧ ids.Nodup ∧ ∀ v ∈ ids, v ∈ keysP G.ps) := by
          refine ⟨?_, ?_, fun v hv => ?_⟩
          · rw [← HE.out]
            unfold dropE
            rw [← keys_ps, HB1.out, HB2.out, HB3.out]
            rfl
          · have h1 := HB1.out
            unfold mayBe at h1
            simp only [Bool.and_eq_true, decide_eq_true_eq] at h1
            exact (idSet_full ids).1 h1.1.2
          · have h1 := List.all_eq_true.1 HB2.out v hv
            rw [← keys_ps]
            simpa using h1
        go_wp2
        go_loopw [32] (fun u wr => ∃ (j : Nat) (Gj : Gm), u = iv (j : Int) ∧ Hid (j ≤ n ∧ GAfter w p G Gj wr ∧ Gj.mb = G.mb ∧ Gj.ps = dropP G.ps (ids.take j) ∧ ∀ k x, j ≤ k → ids[k]? = some x → x ∈ keysP Gj.ps)) (fun u _ => n - (intOf u).toNat)
        case atStart => exact ⟨0, G, rfl, Nat.zero_le _, .same HS.out.1 S4.out.1, rfl, by simp [dropP], fun k x _ hx => HT.out.2.2 x (List.mem_of_getElem? hx)⟩
        case round =>
          obtain ⟨V, hV⟩ : ∃ V, V = wr := ⟨_, rfl⟩
          subst hV
          obtain ⟨j, Gj, rfl, HJ⟩ := hrel
          clear S4 S3 S1
          by_cases hj : j < n
          · obtain ⟨y, hy⟩ : ∃ y, ids[j]? = some y := ⟨_, List.getElem?_eq_getElem (by rw [HS.out.2.2.1.1]; exact hj)⟩
            have HY : Hid (j < n ∧ ids[j]? = some y ∧ Vk y ∧ y ∈ keysP Gj.ps) := ⟨hj, hy, HS.out.2.2.1.2.1 y (List.mem_of_getElem? hy), HJ.out.2.2.2.2 j y (Nat.le_refl _) hy⟩
            obtain ⟨gb, off, rfl, hg, hel⟩ := HS.out.2.2.1.2.2 (by omega)
            have HR : Hid (V.rangeAt gb (off + j * 33) y.cells) := rangeAt_same (hel j y hy) (HJ.out.2.1.2.2.block gb hg (HS.out.2.2.2.2 gb off rfl))
            have q1 : (j : Int) < (n : Int) := by omega
            clear hel hy hj hg
            go_wp2_with (first
              | (with_reducible change wpList _ _ _ ({ dst := some 35, op := _, type := _, pos := _, after := _, guard := _ } :: _) _ _
                 refine wpList_load_want rfl 34 (.tmp 34) rfl gb (off + j * 33) rfl y.cells _ HR.out Try.underlying34 rfl (info34 HY.out.2.2.1.1) ?_)
              | (with_reducible change wpList _ _ _ ({ dst := none, op := Op.store 34 _ _, type := _, pos := _, after := _, guard := _ } :: _) _ _
                 refine Hid.out ?_)
              | fail)
            show wpList _ _ _ _ _ _
            refine wpList_store_fresh rfl 34 (.tmp 8) (.tmp 35) rfl Z y.cells 34 rfl rfl (by rw [Vx.len HY.out.2.2.1.1, HZ.out]) (info34 HY.out.2.2.1.1) (Vx.one y) ?_
            obtain ⟨U1, hU1⟩ : ∃ W, V.alloc (.cells y.cells.toArray 34) = W := ⟨_, rfl⟩
            obtain ⟨d8, hd8⟩ : ∃ g, V.heap.size = g := ⟨_, rfl⟩
            have S1 : Hid (Below V.heap.size V U1 ∧ Blk U1 d8 34 y.cells ∧ GAt U1 p Gj ∧ V.heap.size = d8 ∧ ¬ d8 ∈ Gj.bl p) := by
              have hbl : Below V.heap.size V U1 := by rw [← hU1]; exact below_al _ _
              refine ⟨hbl, by rw [← hU1, ← hd8]; exact Blk.new V _ _, HJ.out.2.1.1.below hbl, hd8, fun h => ?_⟩
              have := HJ.out.2.1.1.hp.lt d8 h
              omega
            rw [hU1, hd8]
            clear hU1 hd8 HR
            go_wp2_with (first
              | (with_reducible change wpList _ _ _ ({ dst := some 37, op := _, type := _, pos := _, after := _, guard := _ } :: _) _ _
                 refine wpList_load_want rfl 34 (.tmp 8) rfl d8 0 rfl y.cells _ S1.out.2.1.range0 Try.underlying34 rfl (info34 HY.out.2.2.1.1) ?_)
              | fail)
            have hyk : y ∈ Gj.keys := by rw [keys_ps]; exact HY.out.2.2.2
            obtain ⟨l0, hl0⟩ := Option.isSome_iff_exists.1 (get_some.trans (decide_eq_true hyk))
            have hl1 := get_mem hl0
            have HL0 : Hid (l0 ∈ Gj.ls ∧ l0.p.v = y ∧ getP Gj.ps y = some l0.p) := ⟨hl1.1, hl1.2, by rw [← get_ps, hl0]; rfl⟩
            clear hyk hl0 hl1
            refine (leave_is S1.out.2.2.1 l0 HL0.out.1 y.cells (by rw [HL0.out.2.1])).mono ?_
            rintro e U2 ⟨⟨rv, rfl⟩, G2, ga, gm2, gp⟩
            have S2 : Hid (GAfter U1 p Gj G2 U2 ∧ G2.mb = Gj.mb ∧ G2.ps = leaveP Gj.ps l0.p.down y ∧ Blk U2 d8 34 y.cells ∧ ¬ d8 ∈ G2.bl p) := by
              refine ⟨ga, gm2, by rw [gp, HL0.out.2.1], ga.2.2.blk S1.out.2.1 S1.out.2.2.2.2, fun h => ?_⟩
              rcases ga.2.1 d8 h with h | h
              · exact S1.out.2.2.2.2 h
              · have := S1.out.2.1.lt
                omega
            clear ga gm2 gp
            have c0 : U2.cell? ⟨p, 0, none⟩ = some (.map (some G2.mb)) := S2.out.1.1.blk.cell rfl
            have hpm : ¬ p = G2.mb := by
              have h1 := S2.out.1.1.hp.apart
              unfold Gm.hp at h1
              rw [List.map_cons, List.map_cons, List.nodup_cons] at h1
              exact fun e => h1.1 (by rw [e]; exact List.mem_cons_self)
            have hdm : ¬ d8 = G2.mb := fun e => S2.out.2.2.2.2 (by rw [e]; simp [Gm.bl, Gm.hp])
            go_wp2_with fail
            refine dr14 (m := G2.mb) ⟨S2.out.1.1.blk.lt, S2.out.2.2.2.1.lt⟩ ⟨hpm, hdm⟩ c0 S2.out.2.2.2.1.range0 HY.out.2.2.1 S2.out.1.1.mp ?_
            intro V3 hk hm
            have HF : Hid (∃ G3, j + 1 ≤ n ∧ GAfter w p G G3 V3 ∧ G3.mb = G.mb ∧ G3.ps = dropP G.ps (ids.take (j + 1)) ∧ ∀ k x, j + 1 ≤ k → ids[k]? = some x → x ∈ keysP G3.ps) := by
              have hy2 : y ∈ G2.keys := by rw [keys_ps, S2.out.2.2.1, leave_keys]; exact HY.out.2.2.2
              obtain ⟨l2, hl2, hv2⟩ := List.mem_map.1 hy2
              obtain ⟨C, D, hs⟩ := split_at hl2
              have hnd := S2.out.1.1.nodup
              unfold Gm.keys at hnd
              rw [hs] at hnd
              have hm' : MP V3 G2.mb (linesKv (C ++ D)) := by
                rw [hs, ← hv2, kdel_lines hnd] at hm
                exact hm
              have her := S2.out.1.1.erase hs hk hm'
              have hps : ({ G2 with ls := C ++ D } : Gm).ps = drop1 Gj.ps y := by
                unfold drop1
                rw [HL0.out.2.2]
                show (C ++ D).map (·.p) = (leaveP Gj.ps l0.p.down y).filter fun x => decide (x.v ≠ y)
                rw [← S2.out.2.2.1, ← filter_lines hnd, hv2]
                unfold Gm.ps
                rw [hs]
              refine ⟨{ G2 with ls := C ++ D }, HY.out.1, ((HJ.out.2.1.then S1.out.1).trans S2.out.1).trans her, ?_, ?_, fun k x hk2 hx => ?_⟩
              · exact S2.out.2.1.trans HJ.out.2.2.1
              · rw [hps, HJ.out.2.2.2.1]
                unfold dropP
                rw [foldl_take _ _ _ _ _ HY.out.2.1]
              · rw [hps]
                refine drop1_keys (HJ.out.2.2.2.2 k x (by omega) hx) (fun e => ?_)
                subst e
                obtain ⟨h1, h2⟩ := List.getElem?_eq_some_iff.1 hx
                obtain ⟨h3, h4⟩ := List.getElem?_eq_some_iff.1 HY.out.2.1
                have := (List.getElem_inj HT.out.2.1).1 (h2.trans h4.symm)
                omega
            clear hk hm c0 hpm hdm
            obtain ⟨G3, h3⟩ := HF.out
            have H3 := hid_of h3
            clear h3 HF HJ S1 S2
            go_wp2
            refine ⟨⟨j + 1, G3, by simp, H3.out⟩, ?_⟩
            have := HY.out.1; simp [intOf]; omega
          · have q1 : ¬ (j : Int) < (n : Int) := by omega
            obtain rfl : j = n := by have := HJ.out.1; omega
            have HF : Hid (GAfter w p G Gj V ∧ Gj.mb = G.mb ∧ Gj.ps = PS) := by
              refine ⟨HJ.out.2.1, HJ.out.2.2.1, ?_⟩
              have h1 := HJ.out.2.2.2.1
              rw [List.take_of_length_le (by rw [HS.out.2.2.1.1]; exact Nat.le_refl _)] at h1
              rw [h1, ← HPS.out, if_pos HT.out.1]
            clear HJ hj
            go_wp2
            go_ret
            exact ⟨by rw [HT.out.1]; rfl, Gj, HF.out⟩
end Go.Proofs.Ytjcihaohpbmogaa.Oct
