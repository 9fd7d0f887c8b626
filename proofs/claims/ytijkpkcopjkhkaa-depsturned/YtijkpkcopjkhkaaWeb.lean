/-
  Layer 12 (deps): webOf.
-/
import Derived.Test.YtijkpkcopjkhkaaWebPure
namespace Go.Proofs.Ytijkpkcopjkhkaa.Oct
open Go.RowKit

/-- what 'webOf' answers -/
def WebP (w : World) (l : List It) (len : Nat) (e : Ending) (w' : World) : Prop :=
  ∃ an cc ga gw ns L B, e = .returned (.agg #[.slice an len cc, .slice (some ⟨ga, 0, none⟩) len len, .slice (some ⟨gw, 0, none⟩) len len]) ∧
    Hid (HsR w' an len ns ∧ ns.Pairwise LtH ∧ (∀ x, x ∈ ns ↔ x ∈ namesK l) ∧ len ≤ cc) ∧
    Hid (Blk w' gw 3 (IV (webW ns l)) ∧ AbM w' B ga L (webA ns l) ∧ w.heap.size ≤ ga ∧ w.heap.size ≤ gw ∧ gw < B ∧ ga < B ∧ B ≤ w'.heap.size) ∧ Hid (Below w.heap.size w w')
section
variable {ops : Array Oper} {rest : List Oper} {o : Oper} {a : Act} {w : World} {Q : Exit → Act → World → Prop}
theorem cells_int (n : Int) : (Value.int .i64 n).cells = #[.int .i64 n] := rfl
/-- a number stored into a row of numbers -/
theorem wpList_storeI (hg : o.guard = none) (x y : Operand) (hop : o.op = Op.store 3 x y) (g k n : Nat) (wt : List Nat) (hx : a.eval x = .pointer (some ⟨g, k, none⟩)) (hy : a.eval y = .int .i64 (n : Int)) (hb : Blk w g 3 (IV wt)) (hk : k < wt.length)
    (hK : ∀ w', Blk w' g 3 (IV (wt.set k n)) → w.grownBy w' (some g) → wpList Try.prog ops Q rest (a.put o.dst undef) w') : wpList Try.prog ops Q (o :: rest) a w := by
  refine wpList_plain hg fun K' hK' => ?_
  have hth := hb.there k 1 (by rw [IV_length]; omega)
  have hst := run_storeCells_cells (P := Try.prog) g k [.int .i64 (n : Int)] 0 w (fun j hj => by simpa using (hth j (by simpa using hj)).1) (fun j hj => by simpa using (hth j (by simpa using hj)).2) (by simp [Value.oneCell'])
  obtain ⟨i, hi, hs1, _⟩ := info3
  have e := Blk.setCells [.int .i64 (n : Int)] k w _ hb (by rw [IV_length]; simp; omega)
  have hrun : (storeVar 3 ⟨g, k, none⟩ (.int .i64 (n : Int))).run Try.prog w = .ok () (w.setCells g k [.int .i64 (n : Int)]) := by
    simp only [Nat.add_zero] at hst
    simp [storeVar, sizeOf, typeInfo, hi, hs1, cells_int, hst]
  unfold Oper.wp execOp
  simp only [hop, hx, hy, Instr.storeAt, Instr.sureAddr, Sem.run_bind, Sem.run_pure, Result.andThen_ok, hrun]
  refine hK' _ _ (hK _ ?_ e.2)
  have e1 := e.1
  have e3 : (IV wt).take k ++ [Value.int .i64 (n : Int)] ++ (IV wt).drop (k + 1) = IV (wt.set k n) := by
    rw [List.set_eq_take_append_cons_drop, if_pos hk]
    simp [IV, List.map_take, List.map_drop]
  simp only [List.length_singleton] at e1
  rw [e3] at e1
  exact e1
end
theorem below_drew {B : Nat} (w : World) : Below B w w.drew := ⟨rfl, rfl, rfl, Nat.le_refl _, fun _ _ => rfl⟩
/-- what stands, but for two blocks -/
def Fr (B : Nat) (WB W : World) (ga gw : Nat) : Prop := B ≤ W.heap.size ∧ ∀ b, b < B → b ≠ ga → b ≠ gw → W.heap[b]? = WB.heap[b]?
theorem Fr.below {B : Nat} {WB W W' : World} {ga gw : Nat} (h : Fr B WB W ga gw) (hb : Below W.heap.size W W') : Fr B WB W' ga gw :=
  ⟨Nat.le_trans h.1 hb.size, fun b h1 h2 h3 => (hb.block b (by have := h.1; omega)).trans (h.2 b h1 h2 h3)⟩
theorem Fr.grown {B : Nat} {WB W W' : World} {ga gw : Nat} {row : Option Nat} (h : Fr B WB W ga gw) (hg : W.grownBy W' row) (hr : ∀ g, row = some g → g = ga ∨ g = gw ∨ B ≤ g) : Fr B WB W' ga gw :=
  ⟨Nat.le_trans h.1 hg.size, fun b h1 h2 h3 => (hg.block b (by have := h.1; omega) (fun e => by
    rcases hr b e.symm with e | e | e
    · exact h2 e
    · exact h3 e
    · omega)).trans (h.2 b h1 h2 h3)⟩
theorem below_grown' {B : Nat} {w a b : World} {row : Option Nat} (h : Below B w a) (hg : a.grownBy b row) (hr : ∀ g, row = some g → B ≤ g) (hB : B ≤ w.heap.size) : Below B w b :=
  ⟨hg.os.trans h.os, hg.tape.trans h.tape, hg.output.trans h.output, Nat.le_trans h.size hg.size, fun k hk => (hg.block k (by have := h.size; omega) (fun e => by have := hr k e.symm; omega)).trans (h.block k hk)⟩
theorem row_apart {W : World} {an : Option Addr} {nn : Nat} {rs : List Hs} (h : HsR W an nn rs) {b : Nat} {t : TypeId} {L : List Value} (hb : Blk W b t L) (hL : ∀ v ∈ L, ∀ k, v ≠ .int .u8 k) : ∀ g off, 0 < nn → an = some ⟨g, off, none⟩ → g ≠ b ∧ g < W.heap.size := by
  intro g off hn e
  obtain ⟨g', off', e', hgl, hel⟩ := h.2.2 hn
  rw [e] at e'
  simp only [Option.some.injEq, Addr.mk.injEq] at e'
  obtain ⟨rfl, rfl, -⟩ := e'
  refine ⟨?_, hgl⟩
  intro e2
  subst e2
  obtain ⟨x, hx⟩ : ∃ x, rs[0]? = some x := ⟨_, List.getElem?_eq_getElem (by rw [h.1]; exact hn)⟩
  have hl := h.2.1 x (List.mem_of_getElem? hx)
  have h0 := hel 0 x hx 0 (.int .u8 (x[0].toNat : Int)) (by simpa using U_get x 0 (by omega))
  rw [cell_of_row W g _ _ t (0, 0) hb] at h0
  simp only [List.getElem?_toArray] at h0
  exact hL _ (List.mem_of_getElem? h0) _ rfl
theorem IV_zero (n : Nat) : IV (List.replicate n 0) = List.replicate n (.int .i64 0) := by simp [IV]
/-- what the drawn region reads -/
theorem s3_same {A W : World} {gs ga n bm hb k : Nat} {d : Hs} {ns : List Hs} {v0 v2 : Value} (h1 : Blk A gs 58 [v0, .slice (some ⟨ga, 0, none⟩) n n, v2]) (h2 : A.rangeAt hb 0 (U d)) (h3 : NM A bm ns) (hl : d.length = 32) (hk : ns[k]? = some d)
    (e1 : W.heap[gs]? = A.heap[gs]?) (e2 : W.heap[hb]? = A.heap[hb]?) (e3 : W.heap[bm]? = A.heap[bm]?) :
    W.cell? ⟨gs, 1, none⟩ = some (.slice (some ⟨ga, 0, none⟩) n n) ∧ W.rangeAt hb 0 (U d) ∧ (Instr.lookup 68 (.map (some bm)) (.agg (U d).toArray) false).run Try.prog W = .ok (.int .i64 (k : Int)) W :=
  ⟨Blk.cell (w := W) (e1.trans h1) rfl, rangeAt_same h2 e2, (h3.same e3).look hl hk⟩
theorem getD_at {xs : List (List Nat)} {k : Nat} {x : List Nat} (h : xs[k]? = some x) : xs.getD k [] = x := by
  rw [List.getD_eq_getElem?_getD, h]; rfl
theorem blk_ne {w : World} {b c : Nat} {t u : TypeId} {L M : List Value} (h : Blk w b t L) (k : Blk w c u M) (hne : t ≠ u) : b ≠ c := by
  intro e
  subst e
  have := h.symm.trans k
  simp only [Option.some.injEq, Obj.cells.injEq] at this
  exact hne this.2.1
theorem nm_ne {w : World} {b c : Nat} {u : TypeId} {ks : List Hs} {M : List Value} (h : NM w b ks) (k : Blk w c u M) : b ≠ c := by
  intro e
  subst e
  obtain ⟨es, ⟨clock, h1, _⟩, _⟩ := h
  have := h1.symm.trans k
  simp at this
theorem cell_same {w w' : World} {b : Nat} (h : w'.heap[b]? = w.heap[b]?) (o : Nat) : w'.cell? ⟨b, o, none⟩ = w.cell? ⟨b, o, none⟩ := by
  simp [World.cell?, h]
theorem alloc_ne {w : World} {o : Obj} {b : Nat} (h : b < w.heap.size) : (w.alloc o).heap[b]? = w.heap[b]? := Below.heap_alloc w o b h
theorem same_len {a b : List Hs} (ha : a.Nodup) (hb : b.Nodup) (h : ∀ x, x ∈ a ↔ x ∈ b) : a.length = b.length :=
  Nat.le_antisymm (nodup_le a b ha fun x hx => (h x).1 hx) (nodup_le b a hb fun x hx => (h x).2 hx)
theorem namesK_nodup (l : List It) : (namesK l).Nodup := by
  have key : ∀ (l : List It) (ks : List Hs), ks.Nodup → (l.foldl (fun ks x => addK ks x.name) ks).Nodup := by
    intro l
    induction l with
    | nil => intro ks h; exact h
    | cons x l ih => intro ks h; exact ih _ (addK_nodup h)
  exact key l [] List.nodup_nil

set_option maxRecDepth 100000 in
set_option maxHeartbeats 4000000 in
theorem webOf_is (w : World) (a : Option Addr) (len cap : Nat) (l : List It) (hi : Its w a len l) (hn : len ≤ 100000) (hm : many l ≤ 90000) (hnm : (namesK l).length = len) (hc : ∀ x ∈ l, ∀ d ∈ x.deps, d ∈ namesK l) :
    Calls Try.prog 35 #[.slice a len cap] w (WebP w l len) := by
  have HA : Hid (Its w a len l ∧ len ≤ 100000 ∧ many l ≤ 90000) := ⟨hi, hn, hm⟩
  have HC : Hid ((namesK l).length = len ∧ ∀ x ∈ l, ∀ d ∈ x.deps, d ∈ namesK l) := ⟨hnm, hc⟩
  have q5 : (len : Int) ≤ 100000 := by omega
  clear hi hn hm hnm hc
  obtain ⟨Z, hZl, hZ⟩ := zero36
  obtain ⟨Y, hYl, hY⟩ := zero34
  have HZ : Hid (Z.length = 33 ∧ Y.length = 32) := ⟨hZl, hYl⟩
  clear hZl hYl
  have hz58 := zero58
  go_enter Try.func35, Try.ntmps35
  go_wp2
  clear hz58
  obtain ⟨A, hA⟩ : ∃ A, w.alloc (.cells #[.slice none 0 0, .slice none 0 0, .slice none 0 0] 58) = A := ⟨_, rfl⟩
  have HA0 : Hid (Below w.heap.size w A ∧ w.heap.size < A.heap.size ∧ Blk A w.heap.size 58 [.slice none 0 0, .slice none 0 0, .slice none 0 0]) := ⟨by rw [← hA]; exact (Below.refl _ w).alloc (Nat.le_refl _) _, by rw [← hA]; simp, by rw [← hA]; simpa using Blk.new w #[.slice none 0 0, .slice none 0 0, .slice none 0 0] 58⟩
  rw [hA]
  clear hA
  refine web_region1 (ks := namesK l) HA.out.2.1 (fun V hV => ?_) (fun V b hb => ?_) ?_
  · exact namesOf_is V a len cap l (HA.out.1.below (HA0.out.1.trans (hV.mono (Nat.le_of_lt HA0.out.2.1)))) HA.out.2.1
  · exact rising_is V b (namesK l) hb (by rw [HC.out.1]; exact HA.out.2.1)
  show ∀ _, _
  intro b0 an nn cc ns ga gw gs V H0
  obtain rfl : nn = len := by
    rw [← HC.out.1, ← H0.2.1.1.1]
    exact same_len (rise_nodup H0.2.1.2.2.1) (namesK_nodup l) H0.2.1.2.2.2
  have H0' : Hid (Web0 A V (namesK l) nn an nn cc ns ga gw gs) := H0
  have HNS : Hid (ns.length = nn ∧ ns.Nodup ∧ (∀ x, x ∈ ns ↔ x ∈ namesK l) ∧ ∀ h ∈ ns, h.length = 32) := ⟨H0.2.1.1.1, rise_nodup H0.2.1.2.2.1, H0.2.1.2.2.2, H0.2.1.1.2.1⟩
  have hc0 : (V.alloc (.map #[] 0)).cell? ⟨gs, 0, none⟩ = some (.slice an nn cc) := (H0.2.2.2.2.1.alloc _).cell rfl
  have hmk := run_make68 nn
  clear H0
  go_wp2
  clear hmk hc0
  obtain ⟨bm, hbm⟩ : ∃ bm, V.heap.size = bm := ⟨_, rfl⟩
  obtain ⟨W, hW⟩ : ∃ W, V.alloc (.map #[] 0) = W := ⟨_, rfl⟩
  have HW : Hid (Below V.heap.size V W ∧ NM W bm [] ∧ V.heap.size = bm) := ⟨by rw [← hW]; exact below_new V _, by rw [← hW, ← hbm]; exact NM.made V, hbm⟩
  rw [hW, hbm]
  clear hW hbm
  go_loopw [28] (fun u wr => ∃ i : Nat, u = .int .i64 (i : Int) ∧ Hid (i ≤ nn ∧ Below V.heap.size V wr ∧ NM wr bm (ns.take i))) (fun u _ => nn - (intOf u).toNat)
  case atStart => exact ⟨0, rfl, ⟨Nat.zero_le _, HW.out.1, HW.out.2.1⟩⟩
  case round =>
    obtain ⟨i, rfl, HB⟩ := hrel
    by_cases hi : i < nn
    · obtain ⟨h, hh⟩ : ∃ h, ns[i]? = some h := ⟨_, List.getElem?_eq_getElem (by rw [HNS.out.1]; exact hi)⟩
      obtain ⟨g, off, hxa, hg, hel⟩ := H0'.out.2.1.1.2.2 (by omega)
      have HX : Hid (i < nn ∧ ns[i]? = some h ∧ h.length = 32 ∧ wr.rangeAt g (off + i * 32) (U h)) := ⟨hi, hh, HNS.out.2.2.2 h (List.mem_of_getElem? hh), rangeAt_same (hel i h hh) (HB.out.2.1.block g hg)⟩
      have q1 : (i : Int) < (nn : Int) := by omega
      clear hel hh hi
      rw [hxa]
      have HN2 : Hid (NM (wr.alloc (.cells (U h).toArray 34)) bm (ns.take i)) := HB.out.2.2.alloc _
      go_wp2_with (first
        | (with_reducible change wpList _ _ _ ({ dst := some 32, op := _, type := _, pos := _, after := _, guard := _ } :: _) _ _
           refine wpList_load_mid rfl 34 (.tmp 31) rfl g (off + i * 32) rfl (U h) _ HX.out.2.2.2 Try.underlying34 rfl (info34 h HX.out.2.2.1) ?_)
        | (with_reducible change wpList _ _ _ ({ dst := none, op := Op.store 34 _ _, type := _, pos := _, after := _, guard := _ } :: _) _ _
           refine wpList_store_fresh rfl 34 (.tmp 6) (.tmp 32) rfl Y (U h) 34 rfl rfl (by rw [U_length, HX.out.2.2.1, HZ.out.2]) (info34 h HX.out.2.2.1) (U_one h) ?_)
        | (with_reducible change wpList _ _ _ ({ dst := some 34, op := _, type := _, pos := _, after := _, guard := _ } :: _) _ _
           refine wpList_load_mid rfl 34 (.tmp 6) rfl wr.heap.size 0 rfl (U h) _ (new34 wr h) Try.underlying34 rfl (info34 h HX.out.2.2.1) ?_)
        | (with_reducible change wpList _ _ _ ({ dst := none, op := Op.mapUpdate 68 _ _ _, type := _, pos := _, after := _, guard := _ } :: _) _ _
           refine Hid.out ?_)
        | fail)
      show wpList _ _ _ _ _ _
      have hlt : (ns.take i).length = i := by rw [List.length_take]; have := HX.out.1; have := HNS.out.1; omega
      refine wpList_nput rfl (.tmp 33) (.tmp 34) (.tmp 35) rfl bm (ns.take i) h rfl rfl (by rw [hlt]; rfl) HN2.out HX.out.2.2.1 ?_ ?_
      · intro hm
        obtain ⟨j, hj⟩ := List.getElem?_of_mem hm
        have hjl := (List.getElem?_eq_some_iff.1 hj).1
        rw [List.getElem?_take_of_lt (by omega)] at hj
        have := (List.nodup_iff_pairwise_ne.1 HNS.out.2.1)
        have h1 := (List.getElem?_eq_some_iff.1 hj)
        have h2 := (List.getElem?_eq_some_iff.1 HX.out.2.1)
        exact List.pairwise_iff_getElem.1 this j i h1.1 h2.1 (by omega) (h1.2.trans h2.2.symm)
      intro w6 r1 r2 r3
      go_wp2
      refine ⟨⟨i + 1, by simp, ⟨HX.out.1, below_grownBy (HB.out.2.1.trans ((below_new wr (.cells (U h).toArray 34)).mono HB.out.2.1.size)) r2 (Nat.le_of_eq HW.out.2.2) (Nat.le_refl _), ?_⟩⟩, ?_⟩
      · rw [List.take_add_one, HX.out.2.1]; exact r1
      · have := HX.out.1; simp [intOf]; omega
    · have q1 : ¬ (i : Int) < (nn : Int) := by omega
      obtain ⟨WB, hWB⟩ : ∃ WB, WB = wr := ⟨_, rfl⟩
      subst hWB
      have HWB : Hid (Below V.heap.size V WB ∧ NM WB bm ns) := ⟨HB.out.2.1, by
        have := HB.out.2.2
        rw [List.take_of_length_le (by rw [HNS.out.1]; omega)] at this
        exact this⟩
      clear HB hi
      go_wp2
      have HF : Hid (Below w.heap.size w WB ∧ Blk WB gs 58 [.slice an nn cc, .slice (some ⟨ga, 0, none⟩) nn nn, .slice (some ⟨gw, 0, none⟩) nn nn] ∧ Blk WB ga 56 (List.replicate nn (.slice none 0 0)) ∧ Blk WB gw 3 (List.replicate nn (.int .i64 0)) ∧ Blk WB w.heap.size 58 [.slice none 0 0, .slice none 0 0, .slice none 0 0] ∧ w.heap.size < ga ∧ w.heap.size < gw) := by
        have hb1 := HWB.out.1
        obtain ⟨c1, c2, c3, c4, c5, c6⟩ := H0'.out
        have c7 := c1.size
        have c8 := HA0.out.2.1
        refine ⟨(HA0.out.1.trans (c1.mono (Nat.le_of_lt c8))).trans (hb1.mono (by omega)), c5.below hb1 c5.lt, c3.1.below hb1 c3.1.lt, c4.1.below hb1 c4.1.lt, ?_, by have := c3.2; omega, by have := c4.2; omega⟩
        exact (HA0.out.2.2.below c1 c8).below hb1 (by omega)
      have HNE : Hid (gs ≠ ga ∧ gs ≠ gw ∧ ga ≠ gw ∧ bm ≠ ga ∧ bm ≠ gw ∧ gs < WB.heap.size ∧ ga < WB.heap.size ∧ gw < WB.heap.size ∧ bm < WB.heap.size) := by
        obtain ⟨c1, c2, c3, c4, c5, c6⟩ := HF.out
        exact ⟨blk_ne c2 c3 (by decide), blk_ne c2 c4 (by decide), blk_ne c3 c4 (by decide), nm_ne HWB.out.2 c3, nm_ne HWB.out.2 c4, c2.lt, c3.lt, c4.lt, HWB.out.2.lt⟩
      go_loopw [39] (fun u wr => ∃ i : Nat, u = .int .i64 (i : Int) ∧ Hid (i ≤ nn ∧ Below w.heap.size w wr ∧ Fr WB.heap.size WB wr ga gw ∧ Blk wr gw 3 (IV (webW ns (l.take i))) ∧ ∃ L, AbM wr WB.heap.size ga L (webA ns (l.take i)))) (fun u _ => nn - (intOf u).toNat)
      case atStart =>
        refine ⟨0, rfl, ⟨Nat.zero_le _, HF.out.1, ⟨Nat.le_refl _, fun _ _ _ _ => rfl⟩, ?_, List.replicate nn (.slice none 0 0), ?_⟩⟩
        · have := HF.out.2.2.2.1
          rw [← IV_zero, ← HNS.out.1] at this
          exact this
        · have := AbM.new WB WB.heap.size ga nn HF.out.2.2.1
          have e : webA ns (l.take 0) = List.replicate nn [] := by rw [← HNS.out.1]; rfl
          rw [e]; exact this
      case round =>
        obtain ⟨i, rfl, HB⟩ := hrel
        by_cases hi : i < nn
        · obtain ⟨x, hx⟩ : ∃ x, l[i]? = some x := ⟨_, List.getElem?_eq_getElem (by rw [HA.out.1.1]; exact hi)⟩
          obtain ⟨b, off, rfl, hb, hel⟩ := HA.out.1.2 (by omega)
          have HX : Hid (i < nn ∧ l[i]? = some x ∧ x.name.length = 32) := ⟨hi, hx, (hel i x hx).1⟩
          have HRA : Hid (wr.rangeAt b (off + i * 33) x.cells) := rangeAt_same (hel i x hx).2.1 (HB.out.2.1.block b hb)
          have HDW : Hid (HsR w x.a x.n x.deps) := (hel i x hx).2.2.1
          have HXN : Hid (x.n ≤ 100000) := by show _ ≤ _; have h1 := dep_le l i x hx; have h2 := HDW.out.1; have h3 := HA.out.2.2; omega
          obtain ⟨k, hk⟩ : ∃ k, numOf ns x.name = k := ⟨_, rfl⟩
          have HK : Hid (numOf ns x.name = k ∧ ns[k]? = some x.name ∧ k < nn) := by
            have h1 : x.name ∈ ns := (HNS.out.2.2.1 _).2 ((mem_namesK l).2 (List.mem_map.2 ⟨x, List.mem_of_getElem? hx, rfl⟩))
            have h2 := numOf_at h1
            rw [hk] at h2
            refine ⟨hk, h2, ?_⟩
            have := (List.getElem?_eq_some_iff.1 h2).1
            rw [HNS.out.1] at this
            exact this
          have q1 : (i : Int) < (nn : Int) := by omega
          have q4 : (k : Int) < (nn : Int) := by have := HK.out.2.2; omega
          clear hel hx hi hk
          have HNM : Hid (NM (wr.alloc (.cells x.cells.toArray 36)) bm ns) := (HWB.out.2.same (HB.out.2.2.1.2 bm HNE.out.2.2.2.2.2.2.2.2 HNE.out.2.2.2.1 HNE.out.2.2.2.2.1)).alloc _
          go_wp2_with (first
            | (with_reducible change wpList _ _ _ ({ dst := some 42, op := _, type := _, pos := _, after := _, guard := _ } :: _) _ _
               refine wpList_load_mid rfl 36 (.tmp 41) rfl b (off + i * 33) rfl x.cells _ HRA.out Try.underlying36 rfl (info36 x HX.out.2.2) ?_)
            | (with_reducible change wpList _ _ _ ({ dst := none, op := Op.store 36 _ _, type := _, pos := _, after := _, guard := _ } :: _) _ _
               refine wpList_store_fresh rfl 36 (.tmp 8) (.tmp 42) rfl Z x.cells 36 rfl rfl (by rw [x.cells_length HX.out.2.2, HZ.out.1]) (info36 x HX.out.2.2) (cells_one x) ?_)
            | (with_reducible change wpList _ _ _ ({ dst := some 45, op := _, type := _, pos := _, after := _, guard := _ } :: _) _ _
               refine wpList_load_mid rfl 34 (.tmp 44) rfl wr.heap.size 0 rfl (U x.name) _ (cells_name wr x) Try.underlying34 rfl (info34 x.name HX.out.2.2) ?_)
            | (with_reducible change wpList _ _ _ ({ dst := some 46, op := _, type := _, pos := _, after := _, guard := _ } :: _) _ _
               refine wpList_nlook rfl (.tmp 43) (.tmp 45) rfl bm ns x.name k rfl rfl HNM.out HX.out.2.2 HK.out.2.1 ?_)
            | (with_reducible change wpList _ _ _ ({ dst := some 47, op := _, type := _, pos := _, after := _, guard := _ } :: _) _ _
               refine Hid.out ?_)
            | fail)
          show wpList _ _ _ _ _ _
          have hcd := cells_dep wr x HX.out.2.2
          have hgs : Blk (wr.alloc (.cells x.cells.toArray 36)) gs 58 [.slice an nn cc, .slice (some ⟨ga, 0, none⟩) nn nn, .slice (some ⟨gw, 0, none⟩) nn nn] := Blk.alloc (w := wr) ((HB.out.2.2.1.2 gs HNE.out.2.2.2.2.2.1 HNE.out.1 HNE.out.2.1).trans HF.out.2.1) _
          have hcs2 := hgs.cell (i := 2) rfl
          clear hgs
          obtain ⟨bi, hbi⟩ : ∃ bi, wr.heap.size = bi := ⟨_, rfl⟩
          obtain ⟨V1, hV⟩ : ∃ V1, wr.alloc (.cells x.cells.toArray 36) = V1 := ⟨_, rfl⟩
          have hbV : Below wr.heap.size wr V1 := by rw [← hV]; exact below_new wr _
          have HV1 : Hid (Below w.heap.size w V1 ∧ Fr WB.heap.size WB V1 ga gw ∧ Blk V1 gw 3 (IV (webW ns (l.take i))) ∧ (∃ L, AbM V1 WB.heap.size ga L (webA ns (l.take i))) ∧ WB.heap.size ≤ bi ∧ bi < V1.heap.size) := by
            obtain ⟨c1, c2, c3, c4, L, c5⟩ := HB.out
            refine ⟨c2.trans (hbV.mono c2.size), c3.below hbV, c4.below hbV c4.lt, ⟨L, c5.below hbV⟩, by rw [← hbi]; exact c3.1, by rw [← hbi, ← hV]; simp⟩
          rw [hbi, hV] at hcd
          rw [hV] at hcs2
          rw [hV, hbi]
          clear hV hbV hbi HRA HNM
          go_wp2_with (first
            | (with_reducible change wpList _ _ _ ({ dst := none, op := Op.store 3 _ _, type := _, pos := _, after := _, guard := _ } :: _) _ _
               refine Hid.out ?_)
            | fail)
          show wpList _ _ _ _ _ _
          refine wpList_storeI rfl (.tmp 53) (.tmp 52) rfl gw k x.n (webW ns (l.take i)) rfl rfl HV1.out.2.2.1 (by rw [webW_length, HNS.out.1]; exact HK.out.2.2) ?_
          intro V2 r1 r2
          have hcd2 : V2.cell? ⟨bi, 32, none⟩ = some (.slice x.a x.n x.c) := by
            rw [← hcd]
            exact cell_same (r2.block bi HV1.out.2.2.2.2.2 (by have h1 := HV1.out.2.2.2.2.1; have h2 := HNE.out.2.2.2.2.2.2.2.1; simp only [ne_eq, Option.some.injEq]; omega)) _
          have HV2 : Hid (Below w.heap.size w V2 ∧ Fr WB.heap.size WB V2 ga gw ∧ Blk V2 gw 3 (IV ((webW ns (l.take i)).set k x.n)) ∧ ∃ L, AbM V2 WB.heap.size ga L (webA ns (l.take i))) := by
            obtain ⟨c1, c2, c3, ⟨L, c4⟩, c5⟩ := HV1.out
            exact ⟨below_grownBy c1 r2 (Nat.le_of_lt HF.out.2.2.2.2.2.2) (Nat.le_refl _), c2.grown r2 (fun g e => by simp only [Option.some.injEq] at e; exact .inr (.inl e.symm)), r1, L, c4.wrote r2 (fun e => HNE.out.2.2.1 e.symm) HNE.out.2.2.2.2.2.2.2.1⟩
          clear hcd hcs2 r1 r2
          go_wp2
          clear hcd2
          obtain ⟨W1, hW1⟩ : ∃ W1, W1 = wr := ⟨_, rfl⟩
          subst hW1
          have q2 : (x.n : Int) ≤ 100000 := by have := HXN.out; omega
          go_loopw [57] (fun u wr => ∃ j : Nat, u = .int .i64 (j : Int) ∧ Hid (j ≤ x.n ∧ Below w.heap.size w wr ∧ Fr WB.heap.size WB wr ga gw ∧ Blk wr gw 3 (IV ((webW ns (l.take i)).set k x.n)) ∧ ∃ L, AbM wr WB.heap.size ga L (aboveI ns k (webA ns (l.take i)) (x.deps.take j)))) (fun u _ => x.n - (intOf u).toNat)
          case atStart => exact ⟨0, rfl, ⟨Nat.zero_le _, HV2.out⟩⟩
          case round =>
            obtain ⟨j, rfl, HJ⟩ := hrel
            by_cases hj : j < x.n
            · obtain ⟨d, hd⟩ : ∃ d, x.deps[j]? = some d := ⟨_, List.getElem?_eq_getElem (by rw [HDW.out.1]; exact hj)⟩
              obtain ⟨g2, off2, hxa, hg2, hel2⟩ := HDW.out.2.2 (by omega)
              have HD : Hid (j < x.n ∧ x.deps[j]? = some d ∧ d.length = 32 ∧ wr.rangeAt g2 (off2 + j * 32) (U d)) := ⟨hj, hd, HDW.out.2.1 d (List.mem_of_getElem? hd), rangeAt_same (hel2 j d hd) (HJ.out.2.1.block g2 hg2)⟩
              have q3 : (j : Int) < (x.n : Int) := by omega
              clear hj hd hel2
              rw [hxa]
              go_wp2_with (first
                | (with_reducible change wpList _ _ _ ({ dst := some 60, op := _, type := _, pos := _, after := _, guard := _ } :: _) _ _
                   refine wpList_load_mid rfl 34 (.tmp 59) rfl g2 (off2 + j * 32) rfl (U d) _ HD.out.2.2.2 Try.underlying34 rfl (info34 d HD.out.2.2.1) ?_)
                | (with_reducible change wpList _ _ _ ({ dst := none, op := Op.store 34 _ _, type := _, pos := _, after := _, guard := _ } :: _) _ _
                   refine wpList_store_fresh rfl 34 (.tmp 11) (.tmp 60) rfl Y (U d) 34 rfl rfl (by rw [U_length, HD.out.2.2.1, HZ.out.2]) (info34 d HD.out.2.2.1) (U_one d) ?_)
                | fail)
              obtain ⟨hb, hhb⟩ : ∃ hb, wr.heap.size = hb := ⟨_, rfl⟩
              obtain ⟨A2, hA2⟩ : ∃ A2, wr.alloc (.cells (U d).toArray 34) = A2 := ⟨_, rfl⟩
              obtain ⟨kd, hkd⟩ : ∃ kd, numOf ns d = kd := ⟨_, rfl⟩
              have hkk : ns[kd]? = some d := by
                rw [← hkd]
                exact numOf_at ((HNS.out.2.2.1 _).2 (HC.out.2 x (List.mem_of_getElem? HX.out.2.1) d (List.mem_of_getElem? HD.out.2.1)))
              have hkn : kd < nn := by have := (List.getElem?_eq_some_iff.1 hkk).1; rw [HNS.out.1] at this; exact this
              obtain ⟨L, hAb⟩ := HJ.out.2.2.2.2
              have hbA : Below wr.heap.size wr A2 := by rw [← hA2]; exact below_new wr _
              have hAb2 : AbM A2 WB.heap.size ga L (aboveI ns k (webA ns (l.take i)) (x.deps.take j)) := hAb.below hbA
              have hlen : L.length = nn := by rw [hAb.len, aboveI_length, webA_length, HNS.out.1]
              obtain ⟨v, hv⟩ : ∃ v, L[kd]? = some v := ⟨_, List.getElem?_eq_getElem (by rw [hlen]; exact hkn)⟩
              obtain ⟨xs, hxs⟩ := hAb.partner hv
              have hrow := hAb.rows kd v xs hv hxs
              have hBs := HJ.out.2.2.1.1
              have hgs2 : Blk A2 gs 58 [.slice an nn cc, .slice (some ⟨ga, 0, none⟩) nn nn, .slice (some ⟨gw, 0, none⟩) nn nn] := (hbA.block gs (by have := HNE.out.2.2.2.2.2.1; omega)).trans ((HJ.out.2.2.1.2 gs HNE.out.2.2.2.2.2.1 HNE.out.1 HNE.out.2.1).trans HF.out.2.1)
              have hnm2 : NM A2 bm ns := HWB.out.2.same ((hbA.block bm (by have := HNE.out.2.2.2.2.2.2.2.2; omega)).trans (HJ.out.2.2.1.2 bm HNE.out.2.2.2.2.2.2.2.2 HNE.out.2.2.2.1 HNE.out.2.2.2.2.1))
              have hrg2 : A2.rangeAt hb 0 (U d) := by rw [← hA2, ← hhb]; exact new34 wr d
              have hsz : A2.heap.size = hb + 1 := by rw [← hA2, ← hhb]; simp
              have hxl : xs.length ≤ 1000000 := by
                have h1 := aboveI_bound ns k (x.deps.take j) (webA ns (l.take i)) (webA_bound ns (l.take i)) xs (List.mem_of_getElem? hxs)
                have h2 := many_le l i
                have h3 := HA.out.2.2
                have h4 := HXN.out
                have h5 := HDW.out.1
                rw [List.length_take] at h1
                omega
              have hne1 : some gs ≠ v.ownBlock := fun e => by have := (hrow.lt gs e.symm).1; have := HNE.out.2.2.2.2.2.1; omega
              have hne2 : some hb ≠ v.ownBlock := fun e => by have := (hrow.lt hb e.symm).2; omega
              have hne3 : some bm ≠ v.ownBlock := fun e => by have := (hrow.lt bm e.symm).1; have := HNE.out.2.2.2.2.2.2.2.2; omega
              have hne4 : some ga ≠ v.ownBlock := fun e => by have := (hrow.lt ga e.symm).1; have := HNE.out.2.2.2.2.2.2.1; omega
              have hne5 : some gw ≠ v.ownBlock := fun e => by have := (hrow.lt gw e.symm).1; have := HNE.out.2.2.2.2.2.2.2.1; omega
              have t1 : gs < A2.drew.heap.size := by show gs < A2.heap.size; have := HNE.out.2.2.2.2.2.1; omega
              have t2 : hb < A2.drew.heap.size := by show hb < A2.heap.size; omega
              have t3 : bm < A2.drew.heap.size := by show bm < A2.heap.size; have := HNE.out.2.2.2.2.2.2.2.2; omega
              have hgB := HNE.out.2.2.2.2.2.2.1
              rw [hA2, hhb]
              refine web_region16 (gs := gs) (ga := ga) (n := nn) (bm := bm) (k := kd) (m := k) (hb := hb) (B := WB.heap.size) (d := d) (v := v) (xs := xs) (L := L) HD.out.2.2.1 (by omega) hv hAb2.blk (hAb2.rows kd v xs hv hxs) hxl (show WB.heap.size ≤ A2.heap.size by omega) ?_ ?_ HA.out.2.1 ?_ ?_
              · exact s3_same hgs2 hrg2 hnm2 HD.out.2.2.1 hkk (alloc_ne t1) (alloc_ne t2) (alloc_ne t3)
              · show ∀ w1, _ → _
                intro w1 hg
                have u1 : gs < (A2.drew.alloc (.cells #[.int .i64 (k : Int)] 3)).heap.size := Nat.lt_of_lt_of_le t1 (below_new A2.drew _).size
                have u2 : hb < (A2.drew.alloc (.cells #[.int .i64 (k : Int)] 3)).heap.size := Nat.lt_of_lt_of_le t2 (below_new A2.drew _).size
                have u3 : bm < (A2.drew.alloc (.cells #[.int .i64 (k : Int)] 3)).heap.size := Nat.lt_of_lt_of_le t3 (below_new A2.drew _).size
                have e1 : w1.heap[gs]? = A2.heap[gs]? := (hg.block gs u1 hne1).trans (alloc_ne t1)
                have e2 : w1.heap[hb]? = A2.heap[hb]? := (hg.block hb u2 hne2).trans (alloc_ne t2)
                have e3 : w1.heap[bm]? = A2.heap[bm]? := (hg.block bm u3 hne3).trans (alloc_ne t3)
                refine ⟨s3_same hgs2 hrg2 hnm2 HD.out.2.2.1 hkk e1 e2 e3, Blk.kept (Blk.alloc (w := A2.drew) hAb2.blk _) hg hne4, fun u => ?_⟩
                have hst := grown_setCell w1 ga kd u
                refine s3_same hgs2 hrg2 hnm2 HD.out.2.2.1 hkk ((hst.block gs (Nat.lt_of_lt_of_le u1 hg.size) (by have := HNE.out.1; simpa using this)).trans e1) ((hst.block hb (Nat.lt_of_lt_of_le u2 hg.size) ?_).trans e2) ((hst.block bm (Nat.lt_of_lt_of_le u3 hg.size) (by have := HNE.out.2.2.2.1; simpa using this)).trans e3)
                simp only [ne_eq, Option.some.injEq]; omega
              · exact s3_same hgs2 hrg2 hnm2 HD.out.2.2.1 hkk rfl rfl rfl
              show ∀ _, _
              intro p1 c1 w1 r1 r2 r3
              have hp := AbM.put hAb2 hv hxs hgB r1 r2 r3
              have hst := grown_setCell w1 ga kd (.slice p1 (xs.length + 1) c1)
              have hb5 : Below A2.heap.size A2 (A2.drew.alloc (.cells #[.int .i64 (k : Int)] 3)) := (below_drew A2).alloc (Nat.le_refl _) _
              have hwA : Below w.heap.size w A2 := HJ.out.2.1.trans (hbA.mono HJ.out.2.1.size)
              have hw5 : Below w.heap.size w (A2.drew.alloc (.cells #[.int .i64 (k : Int)] 3)) := hwA.trans (hb5.mono hwA.size)
              have hwB := HF.out.1.size
              have hw1 : Below w.heap.size w w1 := below_grown' hw5 r2 (fun g e => by have := (hrow.lt g e).1; omega) (Nat.le_refl _)
              have hF5 : Fr WB.heap.size WB (A2.drew.alloc (.cells #[.int .i64 (k : Int)] 3)) ga gw := (HJ.out.2.2.1.below hbA).below hb5
              have hF1 : Fr WB.heap.size WB w1 ga gw := hF5.grown r2 (fun g e => .inr (.inr (hrow.lt g e).1))
              have hW5 : Blk (A2.drew.alloc (.cells #[.int .i64 (k : Int)] 3)) gw 3 (IV ((webW ns (l.take i)).set k x.n)) := (HJ.out.2.2.2.1.below hbA HJ.out.2.2.2.1.lt).below hb5 (HJ.out.2.2.2.1.below hbA HJ.out.2.2.2.1.lt).lt
              obtain ⟨W9, hW9⟩ : ∃ W9, w1.setCell ⟨ga, kd, none⟩ (.slice p1 (xs.length + 1) c1) = W9 := ⟨_, rfl⟩
              have H9 : Hid (Below w.heap.size w W9 ∧ Fr WB.heap.size WB W9 ga gw ∧ Blk W9 gw 3 (IV ((webW ns (l.take i)).set k x.n)) ∧ AbM W9 WB.heap.size ga (L.set kd (.slice p1 (xs.length + 1) c1)) ((aboveI ns k (webA ns (l.take i)) (x.deps.take j)).set kd (xs ++ [k]))) := by
                rw [← hW9]
                exact ⟨below_grownBy hw1 hst (Nat.le_of_lt HF.out.2.2.2.2.2.1) (Nat.le_refl _), hF1.grown hst (fun g e => by simp only [Option.some.injEq] at e; exact .inl e.symm), (hW5.kept r2 hne5).kept hst (by have := HNE.out.2.2.1; simp only [ne_eq, Option.some.injEq]; exact fun e => this e.symm), hp⟩
              have HXS : Hid ((aboveI ns k (webA ns (l.take i)) (x.deps.take j))[kd]? = some xs ∧ numOf ns d = kd) := ⟨hxs, hkd⟩
              rw [hW9]
              clear hW9 hp hst hb5 hwA hw5 hwB hw1 hF5 hF1 hW5 r1 r2 r3 hgB t1 t2 t3 hne1 hne2 hne3 hne4 hne5 hxl hsz hrg2 hnm2 hgs2 hBs hrow hxs hv hlen hAb2 hbA hAb hkk hA2 hhb hkd
              go_wp2
              refine ⟨⟨j + 1, by simp, ⟨HD.out.1, H9.out.1, H9.out.2.1, H9.out.2.2.1, L.set kd (.slice p1 (xs.length + 1) c1), ?_⟩⟩, ?_⟩
              · rw [aboveI_take _ _ _ _ j d HD.out.2.1, HXS.out.2, getD_at HXS.out.1]; exact H9.out.2.2.2
              · have := HD.out.1; simp [intOf]; omega
            · have q3 : ¬ (j : Int) < (x.n : Int) := by omega
              go_wp2
              refine ⟨⟨i + 1, by simp, ⟨HX.out.1, HJ.out.2.1, HJ.out.2.2.1, ?_, ?_⟩⟩, ?_⟩
              · rw [webW_take ns l i x HX.out.2.1, HK.out.1, HDW.out.1]; exact HJ.out.2.2.2.1
              · obtain ⟨L, h⟩ := HJ.out.2.2.2.2
                rw [List.take_of_length_le (l := x.deps) (by rw [HDW.out.1]; omega)] at h
                exact ⟨L, by rw [webA_take ns l i x HX.out.2.1, HK.out.1]; exact h⟩
              · have := HX.out.1; simp [intOf]; omega
        · have q1 : ¬ (i : Int) < (nn : Int) := by omega
          have hgs : Blk wr gs 58 [.slice an nn cc, .slice (some ⟨ga, 0, none⟩) nn nn, .slice (some ⟨gw, 0, none⟩) nn nn] := (HB.out.2.2.1.2 gs HNE.out.2.2.2.2.2.1 HNE.out.1 HNE.out.2.1).trans HF.out.2.1
          have hgr : Blk wr w.heap.size 58 [.slice none 0 0, .slice none 0 0, .slice none 0 0] := (HB.out.2.2.1.2 w.heap.size HF.out.2.2.2.2.1.lt (by have := HF.out.2.2.2.2.2.1; omega) (by have := HF.out.2.2.2.2.2.2; omega)).trans HF.out.2.2.2.2.1
          have HG : Hid (wr.rangeAt gs 0 [.slice an nn cc, .slice (some ⟨ga, 0, none⟩) nn nn, .slice (some ⟨gw, 0, none⟩) nn nn] ∧ Blk wr w.heap.size 58 [.slice none 0 0, .slice none 0 0, .slice none 0 0]) := ⟨by simpa using hgs.range 0 3, hgr⟩
          have HFIN : Hid (∃ L, Blk wr gw 3 (IV (webW ns l)) ∧ AbM wr WB.heap.size ga L (webA ns l) ∧ HsR wr an nn ns) := by
            obtain ⟨c1, c2, c3, c4, L, c5⟩ := HB.out
            rw [List.take_of_length_le (by rw [HA.out.1.1]; omega)] at c4 c5
            refine ⟨L, c4, c5, ?_⟩
            have hro := H0'.out.2.1.1.below HWB.out.1
            by_cases hn0 : 0 < nn
            · obtain ⟨g, off, e, hg, _⟩ := hro.2.2 hn0
              have h1 := row_apart hro HF.out.2.2.1 (fun v hv k => by obtain rfl := List.eq_of_mem_replicate hv; simp) g off hn0 e
              have h2 := row_apart hro HF.out.2.2.2.1 (fun v hv k => by obtain rfl := List.eq_of_mem_replicate hv; simp) g off hn0 e
              refine hro.same c3.1 fun g' off' e' => ?_
              rw [e] at e'
              simp only [Option.some.injEq, Addr.mk.injEq] at e'
              obtain ⟨rfl, -⟩ := e'
              exact c3.2 _ hg h1.1 h2.1
            · have h0 : nn = 0 := by omega
              have h1 : ns = [] := List.eq_nil_of_length_eq_zero (by rw [HNS.out.1]; exact h0)
              subst h0 h1
              exact HsR.nil _ _
          clear hgs hgr hi
          go_wp2_with (first
            | (with_reducible change wpList _ _ _ ({ dst := some 79, op := _, type := _, pos := _, after := _, guard := _ } :: _) _ _
               refine wpList_load_mid rfl 58 (.tmp 3) rfl gs 0 rfl [.slice an nn cc, .slice (some ⟨ga, 0, none⟩) nn nn, .slice (some ⟨gw, 0, none⟩) nn nn] _ HG.out.1 Try.underlying58 rfl (by kernel_rfl) ?_)
            | (with_reducible change wpList _ _ _ ({ dst := none, op := Op.store 58 _ _, type := _, pos := _, after := _, guard := _ } :: _) _ _
               refine Hid.out ?_)
            | fail)
          show wpList _ _ _ _ _ _
          refine wpList_store_blk rfl 58 (.tmp 2) (.tmp 79) rfl w.heap.size 0 58 _ [.slice an nn cc, .slice (some ⟨ga, 0, none⟩) nn nn, .slice (some ⟨gw, 0, none⟩) nn nn] rfl rfl HG.out.2 (by simp) (by kernel_rfl) (by simp [Value.oneCell']) ?_
          intro V9 R1 R2
          go_wp2
          have hb9 : Blk V9 w.heap.size 58 [.slice an nn cc, .slice (some ⟨ga, 0, none⟩) nn nn, .slice (some ⟨gw, 0, none⟩) nn nn] := R1.out
          refine bodyPost_ret (results_cell_row (P := Try.prog) (p := 2) rfl _ V9 w.heap.size 58 _ (0, 0) _ rfl hb9 Try.underlying58 rfl (by kernel_rfl)) rfl ?_
          obtain ⟨L, c1, c2, c3⟩ := HFIN.out
          have hB0 := HF.out.1.size
          have hwr := HB.out.2.1
          have hwl : w.heap.size < WB.heap.size := HF.out.2.2.2.2.1.lt
          refine ⟨an, cc, ga, gw, ns, L, WB.heap.size, rfl, ⟨c3.kept HG.out.2 (by simp) R2.out, H0'.out.2.1.2.2.1, HNS.out.2.2.1, H0'.out.2.1.2.1⟩, ⟨c1.kept R2.out (by have := HF.out.2.2.2.2.2.2; simp only [ne_eq, Option.some.injEq]; omega), c2.wrote R2.out (by have := HF.out.2.2.2.2.2.1; omega) hwl, by have := HF.out.2.2.2.2.2.1; omega, by have := HF.out.2.2.2.2.2.2; omega, HNE.out.2.2.2.2.2.2.2.1, HNE.out.2.2.2.2.2.2.1, Nat.le_trans HB.out.2.2.1.1 R2.out.size⟩, below_grownBy hwr R2.out (Nat.le_refl _) (Nat.le_refl _)⟩
#print axioms webOf_is
end Go.Proofs.Ytijkpkcopjkhkaa.Oct
