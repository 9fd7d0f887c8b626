/-
  Layer 12 (deps): what steps lead to.
-/
import Derived.Test.YtijkpkcopjkhkaaReachPure
namespace Go.Proofs.Ytijkpkcopjkhkaa.Oct
open Go.RowKit

section
variable {ops : Array Oper} {rest : List Oper} {o : Oper} {a : Act} {w : World} {Q : Exit → Act → World → Prop}
theorem wpList_slook (hg : o.guard = none) (m x : Operand) (hop : o.op = Op.lookup 43 m x true) (b : Nat) (ks : List Hs) (h : Hs) (hm : a.eval m = .map (some b)) (hx : a.eval x = .agg (U h).toArray) (hs : SM w b ks) (hl : h.length = 32)
    (hK : wpList Try.prog ops Q rest (a.put o.dst (.tuple #[.agg #[], .bool (decide (h ∈ ks))])) w) : wpList Try.prog ops Q (o :: rest) a w := by
  refine wpList_plain hg fun K' hK' => ?_
  unfold Oper.wp execOp
  simp [hop, hm, hx, hs.look hl, Result.andThen]
  exact hK' _ _ hK
theorem wpList_mlook (hg : o.guard = none) (m x : Operand) (hop : o.op = Op.lookup 48 m x false) (b B : Nat) (ms : List (Hs × List Hs)) (h : Hs) (hm : a.eval m = .map (some b)) (hx : a.eval x = .agg (U h).toArray) (hs : StM w b B ms) (hl : h.length = 32)
    (hK : ∀ oa n c, HsR w oa n (getS ms h) → wpList Try.prog ops Q rest (a.put o.dst (.slice oa n c)) w) : wpList Try.prog ops Q (o :: rest) a w := by
  refine wpList_plain hg fun K' hK' => ?_
  obtain ⟨oa, n, c, hrun, hr⟩ := hs.look hl
  unfold Oper.wp execOp
  simp [hop, hm, hx, hrun, Result.andThen]
  exact hK' _ _ (hK oa n c hr)
end
theorem StM.look2 {w : World} {b B : Nat} {ms : List (Hs × List Hs)} {h : Hs} (hs : StM w b B ms) (hl : h.length = 32) : ∃ a n c, (∀ W : World, W.heap[b]? = w.heap[b]? → (Instr.lookup 48 (.map (some b)) (.agg (U h).toArray) false).run Try.prog W = .ok (.slice a n c) W) ∧ HsR w a n (getS ms h) := by
  obtain ⟨a, n, c, hrun, hr⟩ := hs.look hl
  refine ⟨a, n, c, fun W hW => ?_, hr⟩
  obtain ⟨es, hes⟩ := hs
  have h1 := hes.hm.look (t := 48) (E := 26) Try.underlying48 hl false (zero26 w)
  have h2 := (hes.hm.same hW).look (t := 48) (E := 26) Try.underlying48 hl false (zero26 W)
  have e1 : Result.ok (lkv false (hlook h es) (.slice none 0 0)) w = .ok (.slice a n c) w := h1.symm.trans hrun
  injection e1 with e2 _
  rw [e2] at h2
  exact h2
theorem getS_len (ms : List (Hs × List Hs)) (h : Hs) : (getS ms h).length ≤ (allS ms).length := by
  unfold getS allS
  cases hf : ms.find? (·.1 == h) with
  | none => simp
  | some m =>
    have hm := List.mem_of_find?_eq_some hf
    obtain ⟨a, b, rfl⟩ := List.append_of_mem hm
    simp; omega
def lenOf : Value → Nat
  | .slice _ n _ => n
  | _ => 0
def countOf (w : World) (b : Nat) : Nat := match w.heap[b]? with | some (.map es _) => es.size | _ => 0
theorem SM.count {w : World} {b : Nat} {ks : List Hs} (h : SM w b ks) : countOf w b = ks.length := by
  obtain ⟨es, ⟨clock, hb, _⟩, rfl, _⟩ := h
  unfold countOf
  rw [hb]; simp
theorem SM.row_ne {w : World} {b B n : Nat} {ks : List Hs} {v : Value} {xs : List Value} (h : SM w b ks) (ho : w.ownsRow B 34 32 v n xs) : v.ownBlock ≠ some b := by
  obtain ⟨es, h1, _⟩ := h
  exact ownBlock_ne_map h1 ho
/-- a row cut -/
theorem own_cut {w : World} {B g n c : Nat} {work : List Hs} {f : Hs} (h : w.ownsRow B 34 32 (.slice (some ⟨g, 0, none⟩) (n + 1) c) (n + 1) (UU (work ++ [f]))) (hl : f.length = 32) : w.ownsRow B 34 32 (.slice (some ⟨g, 0, none⟩) n c) n (UU work) := by
  have hlen := h.1
  rw [UU_append, List.length_append, show (UU [f]).length = 32 by simp [UU, U_length, hl]] at hlen
  rcases h.2 with ⟨h1, _⟩ | ⟨g', cap, cur, h1, h2, h3, h4, h5, h6, h7⟩
  · cases h1
  · simp only [Value.slice.injEq, Option.some.injEq, Addr.mk.injEq] at h1
    obtain ⟨⟨rfl, _⟩, _, rfl⟩ := h1
    refine ⟨by omega, .inr ⟨g, c, cur, rfl, h2, h3, by omega, h5, h6, ?_⟩⟩
    have := congrArg (List.take (n * 32)) h7
    rw [List.take_take, Nat.min_eq_left (by omega), UU_append, List.take_left' (by omega)] at this
    exact this

set_option maxRecDepth 100000 in
set_option maxHeartbeats 4000000 in
theorem reach_is (w : World) (bm B : Nat) (ms : List (Hs × List Hs)) (h : Hs) (hs : StM w bm B ms) (hl : h.length = 32) (hT : (allS ms).length ≤ 90000) (hml : ∀ m ∈ ms, ∀ x ∈ m.2, x.length = 32) :
    Calls Try.prog 30 #[.map (some bm), .agg (U h).toArray] w fun e w' => ∃ ks, RiseP w ks e w' ∧ Hid (∀ x, x ∈ ks ↔ Reach (getS ms) h x) := by
  have HS : Hid (StM w bm B ms ∧ (allS ms).length ≤ 90000 ∧ h.length = 32 ∧ ∀ x ∈ allS ms, x.length = 32) := ⟨hs, hT, hl, fun x hx => by obtain ⟨m, hm, hxm⟩ := List.mem_flatMap.1 hx; exact hml m hm x hxm⟩
  obtain ⟨Y, hYl, hY⟩ := zero34
  have HZ : Hid (Y.length = 32) := hYl
  have hz52 := zero52
  have hmk := run_make43
  clear hs hT hl hml hYl
  go_enter Try.func30, Try.ntmps30
  go_wp2_with (first
    | (with_reducible change wpList _ _ _ ({ dst := some 14, op := _, type := _, pos := _, after := _, guard := _ } :: _) _ _
       refine wpList_load_mid rfl 34 (.tmp 3) rfl w.heap.size 0 rfl (U h) _ (rangeAt_same (new34 w h) (Below.heap_alloc _ _ _ (by simp))) Try.underlying34 rfl (info34 h HS.out.2.2.1) ?_)
    | (with_reducible change wpList _ _ _ ({ dst := some 15, op := _, type := _, pos := _, after := _, guard := _ } :: _) _ _
       refine wpList_bslice1 rfl (.tmp 14) rfl h HS.out.2.2.1 rfl ?_)
    | fail)
  clear hmk
  obtain ⟨W, hW⟩ : ∃ W, ((w.alloc (.cells (U h).toArray 34)).alloc (.map #[] 0)).alloc (.cells (U h).toArray 34) = W := ⟨_, rfl⟩
  have H0 : Hid (Below w.heap.size w W ∧ SM W (w.heap.size + 1) [] ∧ W.ownsRow w.heap.size 34 32 (.slice (some ⟨w.heap.size + 1 + 1, 0, none⟩) 1 1) 1 (UU [h])) := by
    refine ⟨?_, ?_, ?_⟩
    · rw [← hW]; exact (((Below.refl _ w).alloc (Nat.le_refl _) _).alloc (by simp) _).alloc (by simp; omega) _
    · have := SM.made (w.alloc (.cells (U h).toArray 34))
      rw [World.size_alloc] at this
      rw [← hW]; exact this.alloc _
    · have hb := Blk.new ((w.alloc (.cells (U h).toArray 34)).alloc (.map #[] 0)) (U h).toArray 34
      rw [World.size_alloc, World.size_alloc, hW] at hb
      exact ⟨by simp [UU, U_length, HS.out.2.2.1], .inr ⟨_, 1, (U h).toArray, rfl, by omega, (show Blk W _ 34 (U h) by simpa using hb), Nat.le_refl _, by unfold maxLen; omega, by simp [U_length, HS.out.2.2.1], by rw [List.take_of_length_le (by simp [U_length, HS.out.2.2.1])]; simp [UU]⟩⟩
  rw [hW]
  clear hW
  generalize w.heap.size + 1 + 1 = g0 at *
  obtain ⟨T, hTT⟩ : ∃ T, (allS ms).length = T := ⟨_, rfl⟩
  have HT : Hid ((allS ms).length = T ∧ T ≤ 90000) := ⟨hTT, by rw [← hTT]; exact HS.out.2.1⟩
  clear hTT
  go_loopw [6] (fun u wr => ∃ (g n c : Nat) (work met : List Hs), u = .slice (some ⟨g, 0, none⟩) n c ∧ Hid (Below w.heap.size w wr ∧ SM wr (w.heap.size + 1) met ∧ wr.ownsRow w.heap.size 34 32 (.slice (some ⟨g, 0, none⟩) n c) n (UU work) ∧ work.length = n ∧ PO (getS ms) h work met)) (fun u wr => 2 * (T - countOf wr (w.heap.size + 1)) + lenOf u)
  case atStart => exact ⟨g0, 1, 1, [h], [], rfl, ⟨H0.out.1, H0.out.2.1, H0.out.2.2, rfl, PO.start _ _⟩⟩
  case round =>
    obtain ⟨g, n, c, work, met, rfl, HB⟩ := hrel
    have HML : Hid (met.length ≤ T ∧ countOf wr (w.heap.size + 1) = met.length ∧ work.length = n) := ⟨by rw [← HT.out.1]; exact met_len HB.out.2.1.nodup.1 HB.out.2.2.2.2.mm, HB.out.2.1.count, HB.out.2.2.2.1⟩
    have HW32 : Hid (∀ x ∈ work, x.length = 32) := fun x hx => by
      rcases HB.out.2.2.2.2.wm x hx with h1 | h1
      · rw [h1]; exact HS.out.2.2.1
      · exact HS.out.2.2.2 x (reach_all (HB.out.2.2.2.2.mm x h1))
    cases n with
    | zero =>
      have HE : Hid (work = []) := List.eq_nil_of_length_eq_zero HB.out.2.2.2.1
      go_wp2_with (go_at_call 33; refine (rising_is wr (w.heap.size + 1) met HB.out.2.1 (by have := HML.out.1; have := HT.out.2; omega)).mono ?_; rintro e w5 ⟨a5, n5, c5, rs, rfl, H5, HB5⟩)
      go_ret
      refine ⟨met, ⟨a5, n5, c5, rs, rfl, H5, HB.out.1.trans (HB5.out.mono HB.out.1.size)⟩, ?_⟩
      have := HB.out.2.2.2.2
      rw [HE.out] at this
      exact this.finish
    | succ n =>
      obtain ⟨work', f, hwf⟩ : ∃ work' f, work = work' ++ [f] := by
        have hne : work ≠ [] := by intro e; have := HB.out.2.2.2.1; rw [e] at this; simp at this
        exact ⟨work.dropLast, work.getLast hne, (List.dropLast_concat_getLast hne).symm⟩
      subst hwf
      have HF : Hid (f.length = 32 ∧ work'.length = n ∧ n + 1 ≤ T + 1) := ⟨HW32.out f (by simp), by have := HML.out.2.2; simpa using this, by have := HB.out.2.2.2.2.len; have := HML.out.1; have := HML.out.2.2; omega⟩
      have HRF : Hid (wr.rangeAt g (n * 32) (U f)) := by
        rw [← Nat.zero_add (n * 32)]
        obtain ⟨a1, c1, e1, e2, _⟩ := own_read HB.out.2.2.1 HW32.out
        obtain ⟨g1, off1, e3, _, e4⟩ := e2.2.2 (by omega)
        simp only [Value.slice.injEq] at e1
        rw [e3] at e1
        simp only [Option.some.injEq, Addr.mk.injEq] at e1
        obtain ⟨⟨rfl, rfl, _⟩, _⟩ := e1
        exact e4 n f (by rw [← HF.out.2.1]; simp)
      have HC : Hid (wr.ownsRow w.heap.size 34 32 (.slice (some ⟨g, 0, none⟩) n c) n (UU work')) := own_cut HB.out.2.2.1 HF.out.1
      have hnc : n + 1 ≤ c := by
        rcases HB.out.2.2.1.2 with ⟨h1, _⟩ | ⟨g', cap, cur, h1, _, _, h4, _⟩
        · cases h1
        · simp only [Value.slice.injEq] at h1
          omega
      have q1 : (n : Int) ≤ 100000 := by have := HF.out.2.2; have := HT.out.2; omega
      have q2 : (n : Int) + 1 ≤ (c : Int) := by omega
      have HB1 : Hid (Below wr.heap.size wr (wr.alloc (.cells (U f).toArray 34))) := (Below.refl _ wr).alloc (Nat.le_refl _) _
      obtain ⟨oa, nn, cc, hlk0, hro⟩ := HS.out.1.look2 HF.out.1
      have hlk := hlk0 (wr.alloc (.cells (U f).toArray 34)) ((HB.out.1.trans (HB1.out.mono HB.out.1.size)).block bm HS.out.1.lt)
      have HRO : Hid (HsR w oa nn (getS ms f) ∧ nn ≤ T) := ⟨hro, by rw [← hro.1, ← HT.out.1]; exact getS_len ms f⟩
      clear hlk0 hro
      go_wp2_with (first
        | (with_reducible change wpList _ _ _ ({ dst := some 25, op := _, type := _, pos := _, after := _, guard := _ } :: _) _ _
           refine wpList_load_mid rfl 34 (.tmp 24) rfl g (n * 32) rfl (U f) _ HRF.out Try.underlying34 rfl (info34 f HF.out.1) ?_)
        | (with_reducible change wpList _ _ _ ({ dst := none, op := Op.store 34 _ _, type := _, pos := _, after := _, guard := _ } :: _) _ _
           refine wpList_store_fresh rfl 34 (.tmp 8) (.tmp 25) rfl Y (U f) 34 rfl rfl (by rw [U_length, HF.out.1, HZ.out]) (info34 f HF.out.1) (U_one f) ?_)
        | (with_reducible change wpList _ _ _ ({ dst := some 30, op := _, type := _, pos := _, after := _, guard := _ } :: _) _ _
           refine wpList_load_mid rfl 34 (.tmp 8) rfl wr.heap.size 0 rfl (U f) _ (new34 wr f) Try.underlying34 rfl (info34 f HF.out.1) ?_)
        | fail)
      clear hlk
      obtain ⟨V, hV⟩ : ∃ V, wr.alloc (.cells (U f).toArray 34) = V := ⟨_, rfl⟩
      have HV : Hid (Below w.heap.size w V ∧ SM V (w.heap.size + 1) met ∧ V.ownsRow w.heap.size 34 32 (.slice (some ⟨g, 0, none⟩) n c) n (UU work') ∧ PI (getS ms) h f [] work' met) := by
        have hb1 := HB1.out
        rw [hV] at hb1
        exact ⟨HB.out.1.trans (hb1.mono HB.out.1.size), HB.out.2.1.below hb1 HB.out.2.1.lt, own_below HC.out hb1, HB.out.2.2.2.2.pop⟩
      rw [hV]
      clear hV HRF HC HB1
      obtain ⟨W1, hW1⟩ : ∃ W1, W1 = wr := ⟨_, rfl⟩
      subst hW1
      have q3 : (nn : Int) ≤ 100000 := by have := HRO.out.2; have := HT.out.2; omega
      obtain ⟨L, hL⟩ : ∃ L, getS ms f = L := ⟨_, rfl⟩
      have HL : Hid (getS ms f = L ∧ L.length = nn ∧ ∀ x ∈ L, x.length = 32) := ⟨hL, by rw [← hL]; exact HRO.out.1.1, by rw [← hL]; exact HRO.out.1.2.1⟩
      clear hL
      go_loopw [33, 6] (fun u v wr => ∃ (j g n c : Nat) (work met2 : List Hs), u = .int .i64 (j : Int) ∧ v = .slice (some ⟨g, 0, none⟩) n c ∧ Hid (j ≤ nn ∧ Below w.heap.size w wr ∧ SM wr (w.heap.size + 1) met2 ∧ wr.ownsRow w.heap.size 34 32 (.slice (some ⟨g, 0, none⟩) n c) n (UU work) ∧ work.length = n ∧ PI (getS ms) h f (L.take j) work met2 ∧ met.length + work.length = met2.length + work'.length ∧ met.length ≤ met2.length)) (fun u _ _ => nn - (intOf u).toNat)
      case atStart => exact ⟨0, g, n, c, work', met, rfl, rfl, ⟨Nat.zero_le _, HV.out.1, HV.out.2.1, HV.out.2.2.1, HF.out.2.1, by simpa using HV.out.2.2.2, rfl, Nat.le_refl _⟩⟩
      case round =>
        obtain ⟨j, g2, n2, c2, work2, met2, rfl, rfl, HJ⟩ := hrel
        have HML2 : Hid (met2.length ≤ T) := by show _ ≤ _; rw [← HT.out.1]; exact met_len HJ.out.2.2.1.nodup.1 HJ.out.2.2.2.2.2.1.mm
        by_cases hj : j < nn
        · obtain ⟨d, hd⟩ : ∃ d, L[j]? = some d := ⟨_, List.getElem?_eq_getElem (by rw [HL.out.2.1]; exact hj)⟩
          have HD : Hid (j < nn ∧ L[j]? = some d ∧ d.length = 32) := ⟨hj, hd, HL.out.2.2 d (List.mem_of_getElem? hd)⟩
          obtain ⟨go, oo, hoa, hgo, hel⟩ := HRO.out.1.2.2 (by omega)
          have HRD : Hid (wr.rangeAt go (oo + j * 32) (U d)) := rangeAt_same (hel j d (by rw [HL.out.1]; exact hd)) (HJ.out.2.1.block go hgo)
          have q4 : (j : Int) < (nn : Int) := by omega
          clear hj hd hel
          rw [hoa]
          have HB6 : Hid (Below wr.heap.size wr (wr.alloc (.cells (U d).toArray 34))) := (Below.refl _ wr).alloc (Nat.le_refl _) _
          have HS6 : Hid (SM (wr.alloc (.cells (U d).toArray 34)) (w.heap.size + 1) met2) := HJ.out.2.2.1.alloc _
          cases hdm : decide (d ∈ met2) with
          | true =>
            have HDM : Hid (decide (d ∈ met2) = true) := hdm
            clear hdm
            go_wp2_with (first
              | (with_reducible change wpList _ _ _ ({ dst := some 36, op := _, type := _, pos := _, after := _, guard := _ } :: _) _ _
                 refine wpList_load_mid rfl 34 (.tmp 35) rfl go (oo + j * 32) rfl (U d) _ HRD.out Try.underlying34 rfl (info34 d HD.out.2.2) ?_)
              | (with_reducible change wpList _ _ _ ({ dst := none, op := Op.store 34 _ _, type := _, pos := _, after := _, guard := _ } :: _) _ _
                 refine wpList_store_fresh rfl 34 (.tmp 10) (.tmp 36) rfl Y (U d) 34 rfl rfl (by rw [U_length, HD.out.2.2, HZ.out]) (info34 d HD.out.2.2) (U_one d) ?_)
              | (with_reducible change wpList _ _ _ ({ dst := some 39, op := _, type := _, pos := _, after := _, guard := _ } :: _) _ _
                 refine wpList_load_mid rfl 34 (.tmp 10) rfl wr.heap.size 0 rfl (U d) _ (new34 wr d) Try.underlying34 rfl (info34 d HD.out.2.2) ?_)
              | (with_reducible change wpList _ _ _ ({ dst := some 40, op := _, type := _, pos := _, after := _, guard := _ } :: _) _ _
                 refine wpList_slook rfl (.tmp 38) (.tmp 39) rfl (w.heap.size + 1) met2 d rfl rfl HS6.out HD.out.2.2 ?_
                 rw [HDM.out])
              | fail)
            have hb7 : Below wr.heap.size wr ((wr.alloc (.cells (U d).toArray 34)).alloc (.cells #[] 52)) := HB6.out.alloc (by simp) _
            refine ⟨⟨j + 1, g2, n2, c2, work2, met2, by simp, rfl, ⟨HD.out.1, HJ.out.2.1.trans (hb7.mono HJ.out.2.1.size), HS6.out.alloc _, own_below HJ.out.2.2.2.1 hb7, HJ.out.2.2.2.2.1, ?_, HJ.out.2.2.2.2.2.2⟩⟩, ?_⟩
            · rw [List.take_add_one, HD.out.2.1]
              exact HJ.out.2.2.2.2.2.1.skip (by simpa using HDM.out)
            · have := HD.out.1; simp [intOf]; omega
          | false =>
            have HDM : Hid (decide (d ∈ met2) = false) := hdm
            have HN : Hid (d ∉ met2) := by show d ∉ met2; simpa using hdm
            clear hdm
            have hb7 : Below wr.heap.size wr ((wr.alloc (.cells (U d).toArray 34)).alloc (.cells #[] 52)) := HB6.out.alloc (by simp) _
            have H7 : Hid (Below wr.heap.size wr ((wr.alloc (.cells (U d).toArray 34)).alloc (.cells #[] 52)) ∧ SM ((wr.alloc (.cells (U d).toArray 34)).alloc (.cells #[] 52)) (w.heap.size + 1) met2 ∧ ((wr.alloc (.cells (U d).toArray 34)).alloc (.cells #[] 52)).rangeAt wr.heap.size 0 (U d)) := ⟨hb7, HS6.out.alloc _, rangeAt_same (new34 wr d) (Below.heap_alloc _ _ _ (by simp))⟩
            clear hb7
            go_wp2_with (first
              | (with_reducible change wpList _ _ _ ({ dst := some 36, op := _, type := _, pos := _, after := _, guard := _ } :: _) _ _
                 refine wpList_load_mid rfl 34 (.tmp 35) rfl go (oo + j * 32) rfl (U d) _ HRD.out Try.underlying34 rfl (info34 d HD.out.2.2) ?_)
              | (with_reducible change wpList _ _ _ ({ dst := none, op := Op.store 34 _ _, type := _, pos := _, after := _, guard := _ } :: _) _ _
                 refine wpList_store_fresh rfl 34 (.tmp 10) (.tmp 36) rfl Y (U d) 34 rfl rfl (by rw [U_length, HD.out.2.2, HZ.out]) (info34 d HD.out.2.2) (U_one d) ?_)
              | (with_reducible change wpList _ _ _ ({ dst := some 39, op := _, type := _, pos := _, after := _, guard := _ } :: _) _ _
                 refine wpList_load_mid rfl 34 (.tmp 10) rfl wr.heap.size 0 rfl (U d) _ (new34 wr d) Try.underlying34 rfl (info34 d HD.out.2.2) ?_)
              | (with_reducible change wpList _ _ _ ({ dst := some 40, op := _, type := _, pos := _, after := _, guard := _ } :: _) _ _
                 refine wpList_slook rfl (.tmp 38) (.tmp 39) rfl (w.heap.size + 1) met2 d rfl rfl HS6.out HD.out.2.2 ?_
                 rw [HDM.out])
              | (with_reducible change wpList _ _ _ ({ dst := some 46, op := _, type := _, pos := _, after := _, guard := _ } :: _) _ _
                 refine wpList_load_mid rfl 34 (.tmp 10) rfl wr.heap.size 0 rfl (U d) _ H7.out.2.2 Try.underlying34 rfl (info34 d HD.out.2.2) ?_)
              | (with_reducible change wpList _ _ _ ({ dst := none, op := Op.mapUpdate 43 _ _ _, type := _, pos := _, after := _, guard := _ } :: _) _ _
                 refine Hid.out ?_)
              | fail)
            show wpList _ _ _ _ _ _
            refine wpList_sput rfl (.tmp 45) (.tmp 46) (.tmp 47) rfl (w.heap.size + 1) met2 d rfl rfl rfl H7.out.2.1 HD.out.2.2 ?_
            intro w6 r1 r2 r3
            have H8 : Hid (SM w6 (w.heap.size + 1) (met2 ++ [d]) ∧ ((wr.alloc (.cells (U d).toArray 34)).alloc (.cells #[] 52)).grownBy w6 (some (w.heap.size + 1)) ∧ w6.rangeAt wr.heap.size 0 (U d) ∧ Below w.heap.size w w6 ∧ w6.ownsRow w.heap.size 34 32 (.slice (some ⟨g2, 0, none⟩) n2 c2) n2 (UU work2)) := by
              have hlt := HJ.out.2.2.1.lt
              refine ⟨?_, r2, rangeAt_same H7.out.2.2 (r2.block _ (by simp; omega) (by simp; omega)), below_grownBy (HJ.out.2.1.trans (H7.out.1.mono HJ.out.2.1.size)) r2 (by omega) (Nat.le_refl _), ?_⟩
              · have := r1
                unfold addK at this
                rw [if_neg HN.out] at this
                exact this
              · have ho := own_below HJ.out.2.2.2.1 H7.out.1
                exact ho.kept r2 (.inr (H7.out.2.1.row_ne ho))
            clear r1 r2 r3
            go_wp2_with (first
              | (with_reducible change wpList _ _ _ ({ dst := some 49, op := _, type := _, pos := _, after := _, guard := _ } :: _) _ _
                 refine wpList_load_mid rfl 34 (.tmp 10) rfl wr.heap.size 0 rfl (U d) _ H8.out.2.2.1 Try.underlying34 rfl (info34 d HD.out.2.2) ?_)
              | (with_reducible change wpList _ _ _ ({ dst := some 50, op := _, type := _, pos := _, after := _, guard := _ } :: _) _ _
                 refine wpList_bslice1 rfl (.tmp 49) rfl d HD.out.2.2 rfl ?_)
              | (with_reducible change wpList _ _ _ ({ dst := some 51, op := _, type := _, pos := _, after := _, guard := _ } :: _) _ _
                 refine Hid.out ?_)
              | fail)
            show wpList _ _ _ _ _ _
            have hb9 : Below w6.heap.size w6 (w6.alloc (.cells (U d).toArray 34)) := (Below.refl _ w6).alloc (Nat.le_refl _) _
            refine wpList_app rfl (.tmp 48) (.tmp 50) rfl w.heap.size (.slice (some ⟨g2, 0, none⟩) n2 c2) n2 work2 (some ⟨w6.heap.size, 0, none⟩) 1 1 [d] rfl rfl (own_below H8.out.2.2.2.2 hb9) (HsR.one w6 d HD.out.2.2) (by have h1 := HJ.out.2.2.2.2.2.1.len; have h2 := HJ.out.2.2.2.2.1; have h3 := HML2.out; have h4 := HT.out.2; omega) (Nat.le_trans H8.out.2.2.2.1.size hb9.size) ?_
            intro v' w7 r1 r2 r3
            have ho9 := own_below H8.out.2.2.2.2 hb9
            have hs9 := H8.out.1.alloc (.cells (U d).toArray 34)
            obtain ⟨g3, c3, rfl⟩ : ∃ g3 c3, v' = .slice (some ⟨g3, 0, none⟩) (n2 + 1) c3 := by
              rcases r1.2 with ⟨h1, _⟩ | ⟨g, cap, cur, h1, _⟩
              · rcases r3 with h2 | h2 <;> rw [h1] at h2 <;> simp [Value.ownBlock] at h2
              · exact ⟨g, cap, h1⟩
            have H10 : Hid (Below w.heap.size w w7 ∧ SM w7 (w.heap.size + 1) (met2 ++ [d]) ∧ w7.ownsRow w.heap.size 34 32 (.slice (some ⟨g3, 0, none⟩) (n2 + 1) c3) (n2 + 1) (UU (work2 ++ [d]))) := ⟨below_row (H8.out.2.2.2.1.trans (hb9.mono H8.out.2.2.2.1.size)) r2 ho9, hs9.kept r2 (fun e => hs9.row_ne ho9 e.symm), r1⟩
            clear r1 r2 r3 ho9 hs9 hb9
            go_wp2
            refine ⟨⟨j + 1, g3, n2 + 1, c3, work2 ++ [d], met2 ++ [d], by simp, rfl, ⟨HD.out.1, H10.out.1, H10.out.2.1, H10.out.2.2, by simp [HJ.out.2.2.2.2.1], ?_, by have := HJ.out.2.2.2.2.2.2.1; simp; omega, by have := HJ.out.2.2.2.2.2.2.2; simp; omega⟩⟩, ?_⟩
            · rw [List.take_add_one, HD.out.2.1]
              exact HJ.out.2.2.2.2.2.1.push (by rw [HL.out.1]; exact List.mem_of_getElem? HD.out.2.1)
            · have := HD.out.1; simp [intOf]; omega
        · have q4 : ¬ (j : Int) < (nn : Int) := by omega
          go_wp2
          refine ⟨⟨g2, n2, c2, work2, met2, rfl, ⟨HJ.out.2.1, HJ.out.2.2.1, HJ.out.2.2.2.1, HJ.out.2.2.2.2.1, ?_⟩⟩, ?_⟩
          · have := HJ.out.2.2.2.2.2.1
            rw [List.take_of_length_le (by rw [HL.out.2.1]; omega)] at this
            rw [← HL.out.1] at this
            exact this.done
          · have h1 := HJ.out.2.2.2.2.2.2
            have h2 := HJ.out.2.2.1.count
            have h3 := HML.out.2.1
            have h4 := HML2.out
            have h5 := HF.out.2.1
            have h6 := HJ.out.2.2.2.2.1
            have h7 := HML.out.1
            show 2 * (T - countOf wr (w.heap.size + 1)) + n2 < 2 * (T - countOf W1 (w.heap.size + 1)) + (n + 1)
            rw [h2, h3]
            omega
#print axioms reach_is
end Go.Proofs.Ytijkpkcopjkhkaa.Oct
