/-
  Layer 12 (deps): the steps the other way round.
-/
import Derived.Test.YtijkpkcopjkhkaaDown
namespace Go.Proofs.Ytijkpkcopjkhkaa.Oct
open Go.RowKit

def upI (ms : List (Hs × List Hs)) (n : Hs) (ds : List Hs) : List (Hs × List Hs) := ds.foldl (fun ms d => appS ms d [n]) ms
def upS (l : List It) : List (Hs × List Hs) := l.foldl (fun ms x => upI ms x.name x.deps) []
theorem upS_take (l : List It) (i : Nat) (x : It) (h : l[i]? = some x) : upS (l.take (i + 1)) = upI (upS (l.take i)) x.name x.deps := by
  unfold upS
  rw [List.take_add_one, h, List.foldl_append]; rfl
theorem upI_take (ms : List (Hs × List Hs)) (n : Hs) (ds : List Hs) (j : Nat) (d : Hs) (h : ds[j]? = some d) : upI ms n (ds.take (j + 1)) = appS (upI ms n (ds.take j)) d [n] := by
  unfold upI
  rw [List.take_add_one, h, List.foldl_append]; rfl
theorem upI_bound {ms : List (Hs × List Hs)} {n : Hs} {N : Nat} (hb : ∀ m ∈ ms, m.2.length ≤ N) (ds : List Hs) : ∀ j, ∀ m ∈ upI ms n (ds.take j), m.2.length ≤ N + j
  | 0 => by simpa [upI] using hb
  | j + 1 => by
    cases h : ds[j]? with
    | none =>
      have : ds.take (j + 1) = ds.take j := by rw [List.take_add_one, h]; simp
      rw [this]
      intro m hm
      have := upI_bound hb ds j m hm
      omega
    | some d =>
      rw [upI_take ms n ds j d h]
      intro m hm
      have := appS_bound (upI_bound hb ds j) m hm
      simp at this
      omega
theorem upS_bound (l : List It) : ∀ i, ∀ m ∈ upS (l.take i), m.2.length ≤ many (l.take i)
  | 0 => by simp [upS]
  | i + 1 => by
    cases h : l[i]? with
    | none =>
      have : l.take (i + 1) = l.take i := by rw [List.take_add_one, h]; simp
      rw [this]; exact upS_bound l i
    | some x =>
      rw [upS_take l i x h, many_take l i x h]
      intro m hm
      have := upI_bound (n := x.name) (upS_bound l i) x.deps x.deps.length m (by rw [List.take_length]; exact hm)
      exact this
theorem zero34 : ∃ Z : List Value, Z.length = 32 ∧ ∀ W, (zeroValue 34).run Try.prog W = .ok (.agg Z.toArray) W := ⟨List.replicate 32 (.int .u8 0), by simp, fun W => by kernel_rfl⟩
theorem fold_set : ∀ (cs : List Value) (k : Nat) (A : Array Value), A.size = k + cs.length → ((cs.zipIdx k).foldl (fun a x => a.setIfInBounds x.2 x.1) A).toList = A.toList.take k ++ cs
  | [], k, A, h => by
    rw [List.take_of_length_le (by simp at h ⊢; omega)]; simp
  | c :: cs, k, A, h => by
    rw [List.zipIdx_cons, List.foldl_cons, fold_set cs (k + 1) _ (by simp at h ⊢; omega)]
    have hk : k < A.toList.length := by simp at h ⊢; omega
    simp only [Array.toList_setIfInBounds]
    rw [List.take_succ_eq_append_getElem (by simpa using hk), List.take_set_of_le (Nat.le_refl _)]
    simp
theorem run_bslice1 (h : Hs) (hl : h.length = 32) (W : World) : (Instr.buildSlice 26 1 #[(0, .agg (U h).toArray)]).run Try.prog W = .ok (.slice (some ⟨W.heap.size, 0, none⟩) 1 1) (W.alloc (.cells (U h).toArray 34)) := by
  obtain ⟨i, hi, hs1, hby, z, hz, hzs⟩ := info34'
  have e : ∀ A : Array Value, A.size = 32 → List.foldl (fun cs (x : Value × Nat) => cs.setIfInBounds x.2 x.1) A (U h).zipIdx = (U h).toArray := by
    intro A hA
    apply Array.toList_inj.1
    rw [fold_set (U h) 0 A (by rw [U_length, hl, hA])]
    simp
  simp [Instr.buildSlice, run_underlying Try.underlying26, sizeOf, typeInfo, hi, hs1, zeroValue, hz, Instr.fill, Value.cells, U_length, hl, e]
  simp [newRow]
theorem wpList_bslice1 {ops : Array Oper} {rest : List Oper} {o : Oper} {a : Act} {w : World} {Q : Exit → Act → World → Prop} (hg : o.guard = none) (x : Operand) (hop : o.op = Op.buildSlice 26 1 #[(0, x)]) (h : Hs) (hl : h.length = 32) (hx : a.eval x = .agg (U h).toArray)
    (hK : wpList Try.prog ops Q rest (a.put o.dst (.slice (some ⟨w.heap.size, 0, none⟩) 1 1)) (w.alloc (.cells (U h).toArray 34))) : wpList Try.prog ops Q (o :: rest) a w := by
  refine wpList_plain hg fun K' hK' => ?_
  unfold Oper.wp execOp
  simp [hop, hx, run_bslice1 h hl, Result.andThen]
  exact hK' _ _ hK
theorem HsR.one (w : World) (h : Hs) (hl : h.length = 32) : HsR (w.alloc (.cells (U h).toArray 34)) (some ⟨w.heap.size, 0, none⟩) 1 [h] := by
  refine ⟨rfl, by simpa using hl, fun _ => ⟨_, _, rfl, by simp, fun i x hi => ?_⟩⟩
  cases i with
  | zero =>
    simp at hi; subst hi
    intro j v hj
    have := (Blk.new w (U h).toArray 34).cell (i := j) (v := v) (by simpa using hj)
    simpa using this
  | succ i => simp at hi
theorem new34 (w : World) (h : Hs) : (w.alloc (.cells (U h).toArray 34)).rangeAt w.heap.size 0 (U h) := by
  intro j v hj
  have := (Blk.new w (U h).toArray 34).cell (i := 0 + j) (v := v) (by simpa using hj)
  exact this
theorem Blk.name {w : World} {b : Nat} {x : It} (h : Blk w b 36 x.cells) : w.rangeAt b 0 (U x.name) := by
  intro j v hj
  have hlt := (List.getElem?_eq_some_iff.1 hj).1
  refine h.cell (i := 0 + j) ?_
  simp only [It.cells, Nat.zero_add]
  rw [List.getElem?_append_left hlt]; exact hj
theorem Blk.row_ne {w : World} {b B n : Nat} {L : List Value} {v : Value} {xs : List Value} {t : TypeId} (h : Blk w b t L) (ht : t ≠ 34) (ho : w.ownsRow B 34 32 v n xs) : some b ≠ v.ownBlock := by
  rcases ho.2 with ⟨rfl, _⟩ | ⟨g, cap, cur, rfl, _, hg, _⟩
  · simp [Value.ownBlock]
  · intro e
    have : b = g := by simpa [Value.ownBlock] using e
    subst this
    rw [show w.heap[b]? = some (.cells L.toArray t (0, 0)) from h] at hg
    cases hg
    exact ht rfl

set_option maxRecDepth 100000 in
set_option maxHeartbeats 2000000 in
theorem up_is (w : World) (a : Option Addr) (len cap : Nat) (l : List It) (h : Its w a len l) (hn : len ≤ 100000) (hm : many l ≤ 100000) :
    Calls Try.prog 32 #[.slice a len cap] w (StepsP w (upS l)) := by
  have HA : Hid (Its w a len l) := h
  have HM : Hid (many l ≤ 100000) := hm
  have q5 : (len : Int) ≤ 100000 := by omega
  obtain ⟨Z, hZl, hZ⟩ := zero36
  obtain ⟨Y, hYl, hY⟩ := zero34
  have HZ : Hid (Z.length = 33 ∧ Y.length = 32) := ⟨hZl, hYl⟩
  clear h hn hZl hm hYl
  have hmk := run_make48
  go_enter Try.func32, Try.ntmps32
  go_wp2
  clear hmk
  obtain ⟨W, hW⟩ : ∃ W, w.alloc (.map #[] 0) = W := ⟨_, rfl⟩
  have HB0 : Hid (Below w.heap.size w W ∧ w.heap.size < W.heap.size) := ⟨by rw [← hW]; exact (Below.refl _ w).alloc (Nat.le_refl _) _, by rw [← hW]; simp⟩
  have HK0 : Hid (StM W w.heap.size w.heap.size []) := by show StM _ _ _ _; rw [← hW]; exact StM.made w _
  rw [hW]
  clear hW
  go_loopw [11] (fun u wr => ∃ i : Nat, u = .int .i64 (i : Int) ∧ Hid (i ≤ len) ∧ Hid (Below w.heap.size w wr ∧ StM wr w.heap.size w.heap.size (upS (l.take i)))) (fun u _ => len - (intOf u).toNat)
  case atStart => exact ⟨0, rfl, Nat.zero_le _, ⟨HB0.out.1, HK0.out⟩⟩
  case round =>
    obtain ⟨i, rfl, HI, HB⟩ := hrel
    by_cases hi : i < len
    · obtain ⟨x, hx⟩ : ∃ x, l[i]? = some x := ⟨_, List.getElem?_eq_getElem (by rw [HA.out.1]; exact hi)⟩
      obtain ⟨b, off, rfl, hb, hel⟩ := HA.out.2 (by omega)
      have HX : Hid (i < len ∧ l[i]? = some x ∧ x.name.length = 32) := ⟨hi, hx, (hel i x hx).1⟩
      have HRA : Hid (wr.rangeAt b (off + i * 33) x.cells) := rangeAt_same (hel i x hx).2.1 (HB.out.1.block b hb)
      have HDW : Hid (HsR w x.a x.n x.deps) := (hel i x hx).2.2.1
      have HXN : Hid (x.n ≤ 100000) := by show _ ≤ _; have h1 := dep_le l i x hx; have h2 := HDW.out.1; have h3 := HM.out; omega
      have q1 : (i : Int) < (len : Int) := by omega
      have hdp := cells_dep wr x (hel i x hx).1
      clear hel hx hi
      go_wp2_with (first
        | (with_reducible change wpList _ _ _ ({ dst := some 14, op := _, type := _, pos := _, after := _, guard := _ } :: _) _ _
           refine wpList_load_mid rfl 36 (.tmp 13) rfl b (off + i * 33) rfl x.cells _ HRA.out Try.underlying36 rfl (info36 x HX.out.2.2) ?_)
        | (with_reducible change wpList _ _ _ ({ dst := none, op := Op.store 36 _ _, type := _, pos := _, after := _, guard := _ } :: _) _ _
           refine wpList_store_fresh rfl 36 (.tmp 5) (.tmp 14) rfl Z x.cells 36 rfl rfl (by rw [x.cells_length HX.out.2.2, HZ.out.1]) (info36 x HX.out.2.2) (cells_one x) ?_)
        | fail)
      obtain ⟨bi, hbi⟩ : ∃ bi, wr.heap.size = bi := ⟨_, rfl⟩
      obtain ⟨V, hV⟩ : ∃ V, wr.alloc (.cells x.cells.toArray 36) = V := ⟨_, rfl⟩
      have hbV : Below wr.heap.size wr V := by rw [← hV]; exact (Below.refl _ wr).alloc (Nat.le_refl _) _
      have HV : Hid (Below w.heap.size w V ∧ StM V w.heap.size w.heap.size (upS (l.take i)) ∧ Blk V bi 36 x.cells ∧ w.heap.size < bi) := ⟨HB.out.1.trans (hbV.mono HB.out.1.size), HB.out.2.below hbV, by rw [← hV, ← hbi]; simpa using Blk.new wr x.cells.toArray 36, by rw [← hbi]; exact HB.out.2.lt⟩
      rw [hV, hbi]
      clear hV hbi hbV hdp HRA
      obtain ⟨W1, hW1⟩ : ∃ W1, W1 = wr := ⟨_, rfl⟩
      subst hW1
      have q2 : (x.n : Int) ≤ 100000 := by have := HXN.out; omega
      go_loopw [18] (fun u wr => ∃ j : Nat, u = .int .i64 (j : Int) ∧ Hid (j ≤ x.n) ∧ Hid (Below w.heap.size w wr ∧ StM wr w.heap.size w.heap.size (upI (upS (l.take i)) x.name (x.deps.take j)) ∧ Blk wr bi 36 x.cells)) (fun u _ => x.n - (intOf u).toNat)
      case atStart => exact ⟨0, rfl, Nat.zero_le _, ⟨HV.out.1, HV.out.2.1, HV.out.2.2.1⟩⟩
      case round =>
        obtain ⟨j, rfl, HJ, HB2⟩ := hrel
        by_cases hj : j < x.n
        · obtain ⟨d, hd⟩ : ∃ d, x.deps[j]? = some d := ⟨_, List.getElem?_eq_getElem (by rw [HDW.out.1]; exact hj)⟩
          obtain ⟨g2, off2, hxa, hg2, hel2⟩ := HDW.out.2.2 (by omega)
          have HD : Hid (j < x.n ∧ x.deps[j]? = some d ∧ d.length = 32 ∧ wr.rangeAt g2 (off2 + j * 32) (U d)) := ⟨hj, hd, HDW.out.2.1 d (List.mem_of_getElem? hd), rangeAt_same (hel2 j d hd) (HB2.out.1.block g2 hg2)⟩
          have q3 : (j : Int) < (x.n : Int) := by omega
          obtain ⟨es, hes⟩ := HB2.out.2.1
          have HE : Hid (StE ((wr.alloc (.cells (U d).toArray 34)).alloc (.cells (U x.name).toArray 34)) w.heap.size w.heap.size es (upI (upS (l.take i)) x.name (x.deps.take j))) := (hes.below ((Below.refl _ wr).alloc (Nat.le_refl _) _)).below ((Below.refl _ _).alloc (Nat.le_refl _) _)
          clear hj hd hel2 hes
          rw [hxa]
          go_wp2_with (first
            | (with_reducible change wpList _ _ _ ({ dst := some 21, op := _, type := _, pos := _, after := _, guard := _ } :: _) _ _
               refine wpList_load_mid rfl 34 (.tmp 20) rfl g2 (off2 + j * 32) rfl (U d) _ HD.out.2.2.2 Try.underlying34 rfl (info34 d HD.out.2.2.1) ?_)
            | (with_reducible change wpList _ _ _ ({ dst := none, op := Op.store 34 _ _, type := _, pos := _, after := _, guard := _ } :: _) _ _
               refine wpList_store_fresh rfl 34 (.tmp 7) (.tmp 21) rfl Y (U d) 34 rfl rfl (by rw [U_length, HD.out.2.2.1, HZ.out.2]) (info34 d HD.out.2.2.1) (U_one d) ?_)
            | (with_reducible change wpList _ _ _ ({ dst := some 23, op := _, type := _, pos := _, after := _, guard := _ } :: _) _ _
               refine wpList_load_mid rfl 34 (.tmp 7) rfl wr.heap.size 0 rfl (U d) _ (new34 wr d) Try.underlying34 rfl (info34 d HD.out.2.2.1) ?_)
            | (with_reducible change wpList _ _ _ ({ dst := some 26, op := _, type := _, pos := _, after := _, guard := _ } :: _) _ _
               refine wpList_load_mid rfl 34 (.tmp 25) rfl bi 0 rfl (U x.name) _ (Blk.name (HB2.out.2.2.alloc _)) Try.underlying34 rfl (info34 x.name HX.out.2.2) ?_)
            | (with_reducible change wpList _ _ _ ({ dst := some 27, op := _, type := _, pos := _, after := _, guard := _ } :: _) _ _
               refine wpList_bslice1 rfl (.tmp 26) rfl x.name HX.out.2.2 rfl ?_)
            | (with_reducible change wpList _ _ _ ({ dst := some 28, op := _, type := _, pos := _, after := _, guard := _ } :: _) _ _
               refine wpList_mentry rfl (.tmp 22) (.tmp 23) rfl w.heap.size w.heap.size es _ d rfl rfl HE.out HD.out.2.2.1 ?_
               intro w1 k e es1 xs ms1 r1 r2 r3 r4 r5 r6 r7
               have HR : Hid (StE w1 w.heap.size w.heap.size es1 ms1 ∧ es1[k]? = some e ∧ ms1[k]? = some (d, xs) ∧ e.k = d ∧ (∀ ys, appS (upI (upS (l.take i)) x.name (x.deps.take j)) d ys = ms1.map (fun m => if m.1 = d then (m.1, m.2 ++ ys) else m)) ∧ ((wr.alloc (.cells (U d).toArray 34)).alloc (.cells (U x.name).toArray 34)).grownBy w1 (some w.heap.size)) := ⟨r1, r2, r3, r4, r5, r6⟩
               have HXS : Hid (xs.length + 1 ≤ 1000000 ∧ HsR w1 (some ⟨wr.heap.size + 1, 0, none⟩) 1 [x.name] ∧ Below w.heap.size w w1 ∧ Blk w1 bi 36 x.cells) := (by
                 have hb1 : Below w.heap.size w w1 := below_grownBy ((HB2.out.1.alloc HB2.out.1.size _).alloc (by have := HB2.out.1.size; simp; omega) _) r6 (Nat.le_refl _) (Nat.le_refl _)
                 have h1 := entry_len (upI_bound (upS_bound l i) x.deps j) r5 r3
                 have h2 := many_le l i
                 have h3 := dep_le l i x HX.out.2.1
                 have h4 := HDW.out.1
                 have h5 := HM.out
                 have h6 := HD.out.1
                 have hone := HsR.one (wr.alloc (.cells (U d).toArray 34)) x.name HX.out.2.2
                 rw [World.size_alloc] at hone
                 refine ⟨by omega, hone.same r6.size (fun g off e1 => r6.block g ?_ ?_), hb1, ((HB2.out.2.2.alloc _).alloc _).kept r6 (by have := HV.out.2.2.2; simp; omega)⟩
                 · simp only [Option.some.injEq, Addr.mk.injEq] at e1
                   have := e1.1; simp; omega
                 · simp only [Option.some.injEq, Addr.mk.injEq] at e1
                   have := e1.1; have := HB2.out.1.size; simp; omega)
               clear r1 r2 r3 r4 r5 r6 r7)
            | (with_reducible change wpList _ _ _ ({ dst := some 29, op := _, type := _, pos := _, after := _, guard := _ } :: _) _ _
               refine wpList_app rfl (.tmp 24) (.tmp 27) rfl w.heap.size e.v xs.length xs (some ⟨wr.heap.size + 1, 0, none⟩) 1 1 [x.name] rfl rfl (HR.out.1.rows k e _ HR.out.2.1 HR.out.2.2.1) HXS.out.2.1 HXS.out.1 HXS.out.2.2.1.size ?_
               intro v' w2 r1 r2 r3
               have HVV : Hid (w2.ownsRow w.heap.size 34 32 v' (xs.length + [x.name].length) (UU (xs ++ [x.name])) ∧ w1.grownBy w2 e.v.ownBlock ∧ (v'.ownBlock = e.v.ownBlock ∨ v'.ownBlock = some w1.heap.size)) := ⟨r1, r2, r3⟩
               clear r1 r2 r3)
            | (with_reducible change wpList _ _ _ ({ dst := none, op := Op.entryStore _ _ _ _, type := _, pos := _, after := _, guard := _ } :: _) _ _
               refine wpList_mstore rfl (.tmp 22) (.tmp 30) (.tmp 29) rfl rfl rfl rfl HR.out.1 HR.out.2.1 HR.out.2.2.1 HR.out.2.2.2.1 (by simpa using HX.out.2.2) HVV.out.1 HVV.out.2.1 HVV.out.2.2 ?_
               intro w3 r1 r2 r3))
          have hrow := HR.out.1.rows k e _ HR.out.2.1 HR.out.2.2.1
          refine ⟨⟨j + 1, by simp, HD.out.1, ?_, by rw [upI_take _ _ _ j d HD.out.2.1, HR.out.2.2.2.2.1]; exact r1, ?_⟩, ?_⟩
          · refine below_grownBy (a := w2) ?_ r2 (Nat.le_refl _) (Nat.le_refl _)
            exact below_row HXS.out.2.2.1 HVV.out.2.1 hrow
          · exact (HXS.out.2.2.2.kept HVV.out.2.1 (HXS.out.2.2.2.row_ne (by decide) hrow)).kept r2 (by have := HV.out.2.2.2; simp; omega)
          · have := HD.out.1; simp [intOf]; omega
        · have q3 : ¬ (j : Int) < (x.n : Int) := by omega
          go_wp2
          refine ⟨⟨i + 1, by simp, HX.out.1, HB2.out.1, ?_⟩, ?_⟩
          · have := HB2.out.2.1
            rw [List.take_of_length_le (l := x.deps) (by rw [HDW.out.1]; omega)] at this
            rw [upS_take l i x HX.out.2.1]; exact this
          · have := HX.out.1; simp [intOf]; omega
    · have q1 : ¬ (i : Int) < (len : Int) := by omega
      go_wp2
      go_ret
      refine ⟨w.heap.size, rfl, ⟨?_, Nat.le_refl _⟩, HB.out.1⟩
      have := HB.out.2
      rw [List.take_of_length_le (by rw [HA.out.1]; omega)] at this
      exact this
#print axioms up_is
end Go.Proofs.Ytijkpkcopjkhkaa.Oct
