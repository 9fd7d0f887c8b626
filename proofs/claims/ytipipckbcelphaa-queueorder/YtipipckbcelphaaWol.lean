/-
  Layer 21 (queue): QueueOrder.
-/
import Derived.Test.YtipipckbcelphaaWos
namespace Go.Proofs.Ytipipckbcelphaa.Oct
open Go.RowKit Go.Shelf
set_option linter.unusedSimpArgs false
set_option linter.unusedVariables false

theorem putC_cases (W : List Int) (x : Int) : (putC W x = 0 ∧ putW W x = W ++ [x] ∧ x ∉ W) ∨ (putC W x ≠ 0 ∧ putW W x = W) := by
  unfold putC putW
  by_cases h1 : x < 1
  · rw [if_pos h1, if_pos h1]; exact .inr ⟨by decide, rfl⟩
  · rw [if_neg h1, if_neg h1]
    by_cases h2 : x ∈ W
    · rw [if_pos h2, if_pos h2]; exact .inr ⟨by decide, rfl⟩
    · rw [if_neg h2, if_neg h2]
      by_cases h3 : 64 ≤ W.length
      · rw [if_pos h3, if_pos h3]; exact .inr ⟨by decide, rfl⟩
      · rw [if_neg h3, if_neg h3]; exact .inl ⟨rfl, rfl, h2⟩
theorem nodup_app {W : List Int} {x : Int} (h : W.Nodup) (hx : x ∉ W) : (W ++ [x]).Nodup := by
  rw [List.nodup_append]
  exact ⟨h, by simp, fun a ha c hc e => hx (by simp at hc; rw [← hc, ← e]; exact ha)⟩
/-- behind the one that waits there is none like it -/
theorem last_is {Tr W : List Int} {x : Int} {k : Nat} (hn : W.Nodup) (hk : W[k]? = some x) : (Tr ++ W)[Tr.length + k]? = some x ∧ ∀ (j : Nat) (z : Int), Tr.length + k < j → (Tr ++ W)[j]? = some z → z ≠ x := by
  refine ⟨by rw [List.getElem?_append_right (by omega), Nat.add_sub_cancel_left]; exact hk, fun j z hj hz e => ?_⟩
  rw [List.getElem?_append_right (by omega)] at hz
  subst e
  obtain ⟨h1, h2⟩ := List.getElem?_eq_some_iff.1 hk
  obtain ⟨h3, h4⟩ := List.getElem?_eq_some_iff.1 hz
  have h5 := List.pairwise_iff_getElem.1 (List.nodup_iff_pairwise_ne.1 hn) k (j - Tr.length) h1 h3 (by omega)
  exact h5 (by rw [h2, h4])
theorem erase_app {Tr W : List Int} {k : Nat} : (Tr ++ W).eraseIdx (Tr.length + k) = Tr ++ W.eraseIdx k := by
  rw [List.eraseIdx_append_of_length_le (by omega), Nat.add_sub_cancel_left]
theorem ivs_erase (l : List Int) (k : Nat) : (ivs l).eraseIdx k = ivs (l.eraseIdx k) := by
  simp only [ivs, List.eraseIdx_eq_take_drop_succ, List.map_append, List.map_take, List.map_drop]
theorem ot_cell {B : Nat} {W : World} {gp n cp : Nat} {P : List Int} (h : OT B W 3 (.slice (some ⟨gp, 0, none⟩) n cp) (ivs P)) {j : Nat} {z : Int} (hz : P[j]? = some z) : W.cell? ⟨gp, j, none⟩ = some (iv z) := by
  rcases h with ⟨h, _⟩ | ⟨g, c, L, hv, hB, hb, h1, h2, h3, h4⟩
  · cases h
  · cases hv
    exact hb.cell (take_get h4 (ivs_at hz))
theorem ot_len {B : Nat} {W : World} {gp n cp : Nat} {P : List Int} (h : OT B W 3 (.slice (some ⟨gp, 0, none⟩) n cp) (ivs P)) : P.length = n ∧ n ≤ cp ∧ gp < W.heap.size := by
  rcases h with ⟨h, _⟩ | ⟨g, c, L, hv, hB, hb, h1, h2, h3, h4⟩
  · cases h
  · cases hv
    exact ⟨by simp [ivs], h1, hb.lt⟩
set_option maxRecDepth 100000 in
set_option maxHeartbeats 8000000 in
theorem order_law (l : List Av) (a : Option Addr) (n cp0 : Nat) (w : World) (hl : ArgA w a n cp0 l) :
    Calls Try.prog 4 #[.slice a n cp0] w fun e w' => e = .returned (.bool true) ∧ Below w.heap.size w w' := by
  have hz38 := zero38
  have hz32 := zero32
  have hmf : ∀ (fn : Fn) (first cap : Array Value) (w : World), (Instr.makeFunc fn first cap).run Try.prog w = .ok (.func fn first cap) w := fun _ _ _ _ => rfl
  have HFEW := few_is l a n cp0 w hl
  have HL : Hid (ArgA w a n cp0 l) := hl
  have HN : Hid (n ≤ 2932031007403) := hl.2.1
  have qn : (n : Int) ≤ 2932031007403 := by have := hl.2.1; omega
  have HLV := fun W => lives_is W
  obtain ⟨i1, hu1, hu2, hu3⟩ := u27
  have HU : Hid (Try.prog.underlying 27 = some (.slice (Try.prog.elem 27)) ∧ Try.prog.info? (Try.prog.elem 27) = some i1 ∧ i1.size = 1) := ⟨hu1, hu2, hu3⟩
  clear hl hu1 hu2 hu3
  go_enter Try.func4, Try.ntmps4
  go_wp2_with fail
  refine HFEW.mono ?_
  rintro e w1 ⟨r, rfl, hb1⟩
  have HB1 : Hid (Below w.heap.size w w1) := hb1
  clear HFEW hb1
  cases r with
  | false =>
    have HLW := HLV w1
    go_wp2_with fail
    refine HLW.mono ?_
    rintro e w2 ⟨rfl, hb2⟩
    have HB2 : Hid (Below w.heap.size w w2) := below_tr HB1.out hb2
    clear HLW hb2
    go_wp2_with fail
    go_ret
    exact ⟨rfl, HB2.out⟩
  | true =>
    have HNEW := new_is w1
    go_wp2_with fail
    refine HNEW.mono ?_
    rintro e w2 ⟨rfl, hq0, hb2⟩
    obtain ⟨b, hbb⟩ : ∃ b, w1.heap.size = b := ⟨_, rfl⟩
    rw [hbb] at hq0 ⊢
    obtain ⟨b5, hb5⟩ : ∃ b5, w2.heap.size = b5 := ⟨_, rfl⟩
    obtain ⟨w3, hw3⟩ : ∃ w3, w2.alloc (.cells #[.slice none 0 0] 27) = w3 := ⟨_, rfl⟩
    have hal : Below w2.heap.size w2 w3 := by rw [← hw3]; exact below_al _ _
    have HO0 : Hid (OI w w3 b b5 ⟨.slice none 0 0, .slice none 0 0, [], []⟩ 0 (.slice none 0 0) [] (.slice none 0 0) []) := by
      have h1 := HB1.out.size
      have h2 := hb2.size
      have hlt := hq0.blk.lt
      refine ⟨hq0.below hal, below_tr (below_tr HB1.out hb2) hal, by rw [← hw3, ← hb5]; exact Blk.new w2 _ _, Ow.nil _ _ _, OT.nil _ _ _, ?_, by omega, (fun g hg => by cases hg), ?_, (fun g hg => by cases hg), (fun g hg => by cases hg)⟩
      · intro k hk
        simp [Qu.bl, Value.ownBlock] at hk
        omega
      · intro e
        simp [Qu.bl, Value.ownBlock] at e
        omega
    clear HNEW hq0 hb2 hbb hal
    go_wp2
    go_loopw [16, 4] (fun u v W => ∃ (i : Nat) (M : Qu) (P Tr : List Int) (tv : Value), u = iv i ∧ Hid (i ≤ n ∧ OI w W b b5 M i v P tv Tr ∧ P = Tr ++ M.W ∧ M.W.Nodup ∧ P.length ≤ i)) (fun u _ _ => n - (intOf u).toNat)
    case atStart => exact ⟨0, _, [], [], _, rfl, Nat.zero_le _, HO0.out, rfl, List.nodup_nil, Nat.le_refl _⟩
    case round =>
      obtain ⟨i, M, P, Tr, tv, rfl, HI⟩ := hrel
      by_cases hi : i = n
      · have q1 : (n : Int) ≤ (i : Int) := by omega
        have HLW := HLV wr
        clear hi
        go_wp2_with fail
        refine HLW.mono ?_
        rintro e w9 ⟨rfl, hb9⟩
        have HB9 : Hid (Below w.heap.size w w9) := below_tr HI.out.2.1.bel hb9
        clear HLW hb9
        go_wp2_with fail
        go_ret
        exact ⟨rfl, HB9.out⟩
      · have HQ : Hid (i < n) := by have := HI.out.1; show _ < _; omega
        have q1 : (i : Int) < (n : Int) := by have := HQ.out; omega
        have q2 : i < n := HQ.out
        obtain ⟨ab, off, ha, hbl, hc⟩ := HL.out.2.2.2 (by omega)
        subst ha
        obtain ⟨x, hx⟩ : ∃ x, l[i]? = some x := ⟨_, List.getElem?_eq_getElem (by rw [HL.out.1]; exact q2)⟩
        have hr : wr.rangeAt ab (off + i * 4) x.cells := rangeAt_same (hc i x hx) (HI.out.2.1.bel.block ab hbl)
        have HR : Hid (wr.rangeAt ab (off + i * 4) x.cells) := hr
        obtain ⟨pv, hpv0⟩ : ∃ pv, u4 = pv := ⟨_, rfl⟩
        subst hpv0
        clear hi hc hx hbl hr
        go_wp2_with (with_reducible change wpList _ _ _ ({ dst := some 19, op := _, type := _, pos := _, after := _, guard := _ } :: _) _ _; refine Hid.out ?_)
        show wpList _ _ _ _ _ _
        refine wpList_load_want rfl 32 (.tmp 18) rfl ab (off + i * 4) rfl x.cells _ HR.out Try.underlying32 rfl size32 ?_
        simp only [Act.put, List.setIfInBounds_toArray, List.set_cons_zero, List.set_cons_succ]
        obtain ⟨g7, hg7⟩ : ∃ g, wr.heap.size = g := ⟨_, rfl⟩
        go_wp2_with (with_reducible change wpList _ _ _ ({ dst := none, op := Op.store 32 _ _, type := _, pos := _, after := _, guard := _ } :: _) _ _; refine Hid.out ?_)
        show wpList _ _ _ _ _ _
        refine wpList_store_blk rfl 32 (.tmp 7) (.tmp 19) rfl g7 0 32 [iv 0, iv 0, iv 0, .slice none 0 0] x.cells rfl rfl (by rw [← hg7]; exact Blk.new wr _ _) (by simp [Av.cells]) size32 (Av.one x) ?_
        intro V1 hb5' hg6
        have hV : Below wr.heap.size wr V1 := (below_al wr _).grown hg6.out (below_al wr _).size (fun j hj => by cases hj; omega)
        have c0 : V1.cell? ⟨g7, 0, none⟩ = some (iv x.kind) := hb5'.out.cell rfl
        have c1 : V1.cell? ⟨g7, 1, none⟩ = some (iv x.id) := hb5'.out.cell rfl
        have H1 : Hid (OI w V1 b b5 M i u4 P tv Tr ∧ Blk V1 g7 32 x.cells ∧ (w.heap.size ≤ g7 ∧ g7 ∉ M.bl b ∧ g7 ≠ b5 ∧ tv.ownBlock ≠ some g7 ∧ u4.ownBlock ≠ some g7)) := by
          have h := HI.out.2.1
          refine ⟨h.below hV, hb5'.out, by have := h.bel.size; omega, fun e => by have := h.q.lt _ e; omega, fun e => by have := h.k5.lt; omega, fun e => by have := h.tr.lt e; omega, fun e => by have := (h.pr.lt e).2; omega⟩
        clear hb5' hg6 hV hg7 HR
        by_cases k0 : x.kind = 0
        · have q3 : (x.kind == 0) = true := by simp [k0]
          have HPU := put_is H1.out.1.q (by have := HN.out; have := HQ.out; omega) x.id
          clear k0
          go_wp2_with fail
          refine HPU.mono ?_
          rintro e V2 ⟨rfl, v2, hq2, ha2⟩
          have ho2 := H1.out.1.call hq2 ha2
          have h72 : Blk V2 g7 32 x.cells := ha2.2.blk H1.out.2.1 H1.out.2.2.2.1
          have d1 : V2.cell? ⟨g7, 1, none⟩ = some (iv x.id) := h72.cell rfl
          have n72 : V2.heap.size ≥ V1.heap.size := ha2.2.size
          rcases putC_cases M.W x.id with ⟨e1, e2, e3⟩ | ⟨e1, e2⟩
          · have q4 : (putC M.W x.id == 0) = true := by simp [e1]
            have HP2 : Hid (OI w V2 b b5 ⟨v2, M.ev, M.W ++ [x.id], M.E⟩ (i + 1) u4 P tv Tr ∧ x.id ∉ M.W) := by rw [← e2]; exact ⟨ho2, e3⟩
            have hbs := run_bs27 x.id
            clear HPU hq2 ha2 ho2 h72 n72 e1 e2 e3 c0 c1
            go_wp2_with (with_reducible change wpList _ _ _ ({ dst := some 36, op := _, type := _, pos := _, after := _, guard := _ } :: _) _ _; refine Hid.out ?_)
            show wpList _ _ _ _ _ _
            obtain ⟨v3, V3, hr3, ho3, hg3, hb3⟩ := OT.app (ty := 27) Try.underlying27 sized3 (by omega) (HP2.out.1.below (below_al V2 (.cells #[iv x.id] 3))).pr (Nat.le_trans HP2.out.1.bel.size (by simp)) V2.heap.size 1 (iv x.id) rfl ((Blk.new V2 #[iv x.id] 3).cell rfl) (by have h1 := HI.out.2.2.2.2; have h2 := HN.out; have h3 := HQ.out; simp [ivs]; omega)
            refine wpList_ap rfl 27 (.tmp 32) (.tmp 35) rfl u4 _ v3 rfl rfl hr3 ?_
            simp only [Act.put, List.setIfInBounds_toArray, List.set_cons_zero, List.set_cons_succ]
            have HZ : Hid (OI w V3 b b5 ⟨v2, M.ev, M.W ++ [x.id], M.E⟩ (i + 1) v3 (P ++ [x.id]) tv Tr ∧ P ++ [x.id] = Tr ++ (M.W ++ [x.id]) ∧ (M.W ++ [x.id]).Nodup ∧ (P ++ [x.id]).length ≤ i + 1) := by
              refine ⟨(HP2.out.1.below (below_al V2 (.cells #[iv x.id] 3))).pset hg3 (by have := ho3; simpa [ivs] using this) hb3, by rw [HI.out.2.2.1, List.append_assoc], nodup_app HI.out.2.2.2.1 HP2.out.2, by have := HI.out.2.2.2.2; simp; omega⟩
            clear hr3 ho3 hg3 hb3 d1
            have k5 : V3.cell? ⟨b5, 0, none⟩ = some tv := HZ.out.1.k5.cell rfl
            obtain ⟨at2, ct, htv, _⟩ := HZ.out.1.tr.read
            obtain ⟨nt, hnt⟩ : ∃ nt, (Tr).length = nt := ⟨_, rfl⟩
            rw [hnt] at htv
            rw [htv] at k5
            have HTV : Hid (tv = .slice at2 nt ct ∧ (Tr).length = nt) := ⟨htv, hnt⟩
            have HL21 : Hid (b5 < V3.heap.size) := HZ.out.1.k5.lt
            have hPL : ((P ++ [x.id])).length = nt + ((M.W ++ [x.id])).length := by rw [← hnt, HZ.out.2.1, List.length_append]
            have hbi : ((P ++ [x.id])).length ≤ 140737488355328 := by have h1 := HZ.out.2.2.2; have h2 := HN.out; have h3 := HQ.out; omega
            obtain ⟨pz, hpz⟩ : ∃ pz, v3 = pz := ⟨_, rfl⟩
            rw [hpz] at HZ ⊢
            clear htv hnt
            rcases HZ.out.1.pr with ⟨hpv, hP0⟩ | ⟨gp1, cp1, L1, hpv, hB1, hbk1, hc1, hc2, hc3, hc4⟩
            · have hP : ((P ++ [x.id])) = [] := List.map_eq_nil_iff.1 hP0
              have hP' : ((P ++ [x.id])).length = 0 := by rw [hP]; rfl
              have hnt0 : nt = 0 := by omega
              have hW0 : ((M.W ++ [x.id])) = [] := List.eq_nil_of_length_eq_zero (by omega)
              have hT0 : (Tr) = [] := List.eq_nil_of_length_eq_zero (by rw [HTV.out.2, hnt0])
              subst hpv
              rw [hnt0] at k5
              have HI21 : Hid (0 ≤ 0 ∧ 0 ≤ 0) := ⟨Nat.le_refl _, Nat.le_refl _⟩
              have HOF21 : Hid (0 = if 0 = 0 then 0 else 0) := rfl
              have HNN : Hid ((0 : Nat) ≤ 140737488355328 ∧ (0 : Nat) ≤ 140737488355328) := ⟨Nat.zero_le _, Nat.zero_le _⟩
              have HE : Hid (∀ (V' : World) (q : Option Addr), Nums V' q 0 []) := fun V' q => ⟨rfl, fun h => absurd h (by omega)⟩
              have HW21 : Hid (∀ V', Below V3.heap.size V3 V' → Calls Try.prog 23 #[.pointer (some ⟨b, 0, none⟩)] V' fun e V'' => ∃ aw cw2, e = .returned (.slice aw 0 cw2) ∧ Nums V'' aw 0 [] ∧ Below V'.heap.size V' V'') := fun V' hV => (waiting_is (HZ.out.1.q.below hV)).mono (by
                rintro e V'' ⟨v, rfl, h1, h2⟩
                obtain ⟨a, c, hv, _, _, h3, _⟩ := nums_own h1
                rw [show ((⟨v2, M.ev, M.W ++ [x.id], M.E⟩ : Qu)).W.length = 0 from by rw [show ((⟨v2, M.ev, M.W ++ [x.id], M.E⟩ : Qu)).W = (M.W ++ [x.id]) from rfl, hW0]; rfl] at hv
                exact ⟨a, c, by rw [hv], HE.out V'' a, h2⟩)
              clear hP0 hPL hbi hP hP' hnt0 hW0 hT0 hpz
              go_wp2_with fail
              refine ord21n (Tr := []) (l := []) (gp := 0) (n := 0) (cp := 0) (nt := 0) (o1 := 0) HL21 k5 HI21 HOF21 HNN HU (fun V' _ => HE.out V' _) (fun V' _ => HE.out V' _) (fun V' _ => HE.out V' _) HW21 ?_
              intro V9 aw9 cw9 hV9
              have HF : Hid (OI w V9 b b5 (⟨v2, M.ev, M.W ++ [x.id], M.E⟩ : Qu) (i + 1) (.slice none 0 0) (P ++ [x.id]) tv Tr ∧ (P ++ [x.id]) = Tr ++ ((⟨v2, M.ev, M.W ++ [x.id], M.E⟩ : Qu)).W ∧ ((⟨v2, M.ev, M.W ++ [x.id], M.E⟩ : Qu)).W.Nodup ∧ ((P ++ [x.id])).length ≤ i + 1) := ⟨HZ.out.1.below hV9, HZ.out.2⟩
              clear hV9 k5
              go_wp2
              go_roundw
              case rel => exact ⟨i + 1, (⟨v2, M.ev, M.W ++ [x.id], M.E⟩ : Qu), (P ++ [x.id]), Tr, tv, by simp, HQ.out, HF.out⟩
              case measure =>
                have := HQ.out
                simp only [intOf]
                omega
            · obtain ⟨np1, hnp1⟩ : ∃ np1, (ivs ((P ++ [x.id]))).length = np1 := ⟨_, rfl⟩
              rw [hnp1] at hpv hc1 hc4
              have hPn : ((P ++ [x.id])).length = np1 := by rw [← hnp1]; simp [ivs]
              subst hpv
              obtain ⟨o2, ho2'⟩ : ∃ o2, o2 = if cp1 = nt then 0 else nt := ⟨_, rfl⟩
              have HOF21 : Hid (o2 = if cp1 = nt then 0 else nt) := ho2'
              have HI21 : Hid (nt ≤ np1 ∧ np1 ≤ cp1) := ⟨by omega, hc1⟩
              have HNN : Hid (nt ≤ 140737488355328 ∧ np1 - nt ≤ 140737488355328) := ⟨by omega, by omega⟩
              have HP1 : Hid (∀ V', Below V3.heap.size V3 V' → Nums V' (some ⟨gp1, 0, none⟩) nt (Tr)) := fun V' hV => ⟨HTV.out.2, fun _ => ⟨gp1, 0, rfl, Nat.lt_of_lt_of_le hbk1.lt hV.size, fun j z hz => by
                rw [Nat.zero_add]
                refine ot_cell (HZ.out.1.pr.below hV) ?_
                rw [HZ.out.2.1, List.getElem?_append_left (List.getElem?_eq_some_iff.1 hz).1]
                exact hz⟩⟩
              have HTR : Hid (∀ V', Below V3.heap.size V3 V' → Nums V' at2 nt (Tr)) := fun V' hV => by
                obtain ⟨a, c, hv, _, _, h3, _⟩ := nums_own (HZ.out.1.tr.below hV)
                rw [HTV.out.2] at hv h3
                rw [HTV.out.1] at hv
                cases hv
                exact h3
              have HP2' : Hid (∀ V', Below V3.heap.size V3 V' → Nums V' (some ⟨gp1, o2, none⟩) (np1 - nt) ((M.W ++ [x.id]))) := fun V' hV => ⟨by omega, fun hp => ⟨gp1, o2, rfl, Nat.lt_of_lt_of_le hbk1.lt hV.size, fun j z hz => by
                have e1 : o2 = nt := by rw [ho2', if_neg (by omega)]
                rw [e1]
                refine ot_cell (HZ.out.1.pr.below hV) ?_
                rw [HZ.out.2.1, ← HTV.out.2, List.getElem?_append_right (by omega), Nat.add_sub_cancel_left]
                exact hz⟩⟩
              have HW21 : Hid (∀ V', Below V3.heap.size V3 V' → Calls Try.prog 23 #[.pointer (some ⟨b, 0, none⟩)] V' fun e V'' => ∃ aw cw2, e = .returned (.slice aw (np1 - nt) cw2) ∧ Nums V'' aw (np1 - nt) ((M.W ++ [x.id])) ∧ Below V'.heap.size V' V'') := fun V' hV => (waiting_is (HZ.out.1.q.below hV)).mono (by
                rintro e V'' ⟨v, rfl, h1, h2⟩
                obtain ⟨a, c, hv, _, _, h3, _⟩ := nums_own h1
                rw [show ((⟨v2, M.ev, M.W ++ [x.id], M.E⟩ : Qu)).W.length = np1 - nt from by rw [show ((⟨v2, M.ev, M.W ++ [x.id], M.E⟩ : Qu)).W = (M.W ++ [x.id]) from rfl]; omega] at hv h3
                exact ⟨a, c, by rw [hv], h3, h2⟩)
              clear hPL hbi hnp1 hPn ho2' hbk1 hc1 hc2 hc3 hc4 hB1 hpz
              go_wp2_with fail
              refine ord21s HL21 k5 HI21 HOF21 HNN HU HP1 HTR HP2' HW21 ?_
              intro V9 aw9 cw9 hV9
              have HF : Hid (OI w V9 b b5 (⟨v2, M.ev, M.W ++ [x.id], M.E⟩ : Qu) (i + 1) (.slice (some ⟨gp1, 0, none⟩) np1 cp1) (P ++ [x.id]) tv Tr ∧ (P ++ [x.id]) = Tr ++ ((⟨v2, M.ev, M.W ++ [x.id], M.E⟩ : Qu)).W ∧ ((⟨v2, M.ev, M.W ++ [x.id], M.E⟩ : Qu)).W.Nodup ∧ ((P ++ [x.id])).length ≤ i + 1) := ⟨HZ.out.1.below hV9, HZ.out.2⟩
              clear hV9 k5
              go_wp2
              go_roundw
              case rel => exact ⟨i + 1, (⟨v2, M.ev, M.W ++ [x.id], M.E⟩ : Qu), (P ++ [x.id]), Tr, tv, by simp, HQ.out, HF.out⟩
              case measure =>
                have := HQ.out
                simp only [intOf]
                omega
          · have q4 : (putC M.W x.id == 0) = false := by simpa using e1
            have HZ : Hid (OI w V2 b b5 ⟨v2, M.ev, M.W, M.E⟩ (i + 1) u4 P tv Tr ∧ P = Tr ++ M.W ∧ M.W.Nodup ∧ P.length ≤ i + 1) := by rw [e2] at ho2; exact ⟨ho2, HI.out.2.2.1, HI.out.2.2.2.1, by have := HI.out.2.2.2.2; omega⟩
            clear HPU hq2 ha2 ho2 h72 n72 e1 e2 c0 c1 d1
            have k5 : V2.cell? ⟨b5, 0, none⟩ = some tv := HZ.out.1.k5.cell rfl
            obtain ⟨at2, ct, htv, _⟩ := HZ.out.1.tr.read
            obtain ⟨nt, hnt⟩ : ∃ nt, (Tr).length = nt := ⟨_, rfl⟩
            rw [hnt] at htv
            rw [htv] at k5
            have HTV : Hid (tv = .slice at2 nt ct ∧ (Tr).length = nt) := ⟨htv, hnt⟩
            have HL21 : Hid (b5 < V2.heap.size) := HZ.out.1.k5.lt
            have hPL : (P).length = nt + (M.W).length := by rw [← hnt, HZ.out.2.1, List.length_append]
            have hbi : (P).length ≤ 140737488355328 := by have h1 := HZ.out.2.2.2; have h2 := HN.out; have h3 := HQ.out; omega
            obtain ⟨pz, hpz⟩ : ∃ pz, u4 = pz := ⟨_, rfl⟩
            rw [hpz] at HZ ⊢
            clear htv hnt
            rcases HZ.out.1.pr with ⟨hpv, hP0⟩ | ⟨gp1, cp1, L1, hpv, hB1, hbk1, hc1, hc2, hc3, hc4⟩
            · have hP : (P) = [] := List.map_eq_nil_iff.1 hP0
              have hP' : (P).length = 0 := by rw [hP]; rfl
              have hnt0 : nt = 0 := by omega
              have hW0 : (M.W) = [] := List.eq_nil_of_length_eq_zero (by omega)
              have hT0 : (Tr) = [] := List.eq_nil_of_length_eq_zero (by rw [HTV.out.2, hnt0])
              subst hpv
              rw [hnt0] at k5
              have HI21 : Hid (0 ≤ 0 ∧ 0 ≤ 0) := ⟨Nat.le_refl _, Nat.le_refl _⟩
              have HOF21 : Hid (0 = if 0 = 0 then 0 else 0) := rfl
              have HNN : Hid ((0 : Nat) ≤ 140737488355328 ∧ (0 : Nat) ≤ 140737488355328) := ⟨Nat.zero_le _, Nat.zero_le _⟩
              have HE : Hid (∀ (V' : World) (q : Option Addr), Nums V' q 0 []) := fun V' q => ⟨rfl, fun h => absurd h (by omega)⟩
              have HW21 : Hid (∀ V', Below V2.heap.size V2 V' → Calls Try.prog 23 #[.pointer (some ⟨b, 0, none⟩)] V' fun e V'' => ∃ aw cw2, e = .returned (.slice aw 0 cw2) ∧ Nums V'' aw 0 [] ∧ Below V'.heap.size V' V'') := fun V' hV => (waiting_is (HZ.out.1.q.below hV)).mono (by
                rintro e V'' ⟨v, rfl, h1, h2⟩
                obtain ⟨a, c, hv, _, _, h3, _⟩ := nums_own h1
                rw [show ((⟨v2, M.ev, M.W, M.E⟩ : Qu)).W.length = 0 from by rw [show ((⟨v2, M.ev, M.W, M.E⟩ : Qu)).W = M.W from rfl, hW0]; rfl] at hv
                exact ⟨a, c, by rw [hv], HE.out V'' a, h2⟩)
              clear hP0 hPL hbi hP hP' hnt0 hW0 hT0 hpz
              go_wp2_with fail
              refine ord21n (Tr := []) (l := []) (gp := 0) (n := 0) (cp := 0) (nt := 0) (o1 := 0) HL21 k5 HI21 HOF21 HNN HU (fun V' _ => HE.out V' _) (fun V' _ => HE.out V' _) (fun V' _ => HE.out V' _) HW21 ?_
              intro V9 aw9 cw9 hV9
              have HF : Hid (OI w V9 b b5 (⟨v2, M.ev, M.W, M.E⟩ : Qu) (i + 1) (.slice none 0 0) P tv Tr ∧ P = Tr ++ ((⟨v2, M.ev, M.W, M.E⟩ : Qu)).W ∧ ((⟨v2, M.ev, M.W, M.E⟩ : Qu)).W.Nodup ∧ (P).length ≤ i + 1) := ⟨HZ.out.1.below hV9, HZ.out.2⟩
              clear hV9 k5
              go_wp2
              go_roundw
              case rel => exact ⟨i + 1, (⟨v2, M.ev, M.W, M.E⟩ : Qu), P, Tr, tv, by simp, HQ.out, HF.out⟩
              case measure =>
                have := HQ.out
                simp only [intOf]
                omega
            · obtain ⟨np1, hnp1⟩ : ∃ np1, (ivs (P)).length = np1 := ⟨_, rfl⟩
              rw [hnp1] at hpv hc1 hc4
              have hPn : (P).length = np1 := by rw [← hnp1]; simp [ivs]
              subst hpv
              obtain ⟨o2, ho2'⟩ : ∃ o2, o2 = if cp1 = nt then 0 else nt := ⟨_, rfl⟩
              have HOF21 : Hid (o2 = if cp1 = nt then 0 else nt) := ho2'
              have HI21 : Hid (nt ≤ np1 ∧ np1 ≤ cp1) := ⟨by omega, hc1⟩
              have HNN : Hid (nt ≤ 140737488355328 ∧ np1 - nt ≤ 140737488355328) := ⟨by omega, by omega⟩
              have HP1 : Hid (∀ V', Below V2.heap.size V2 V' → Nums V' (some ⟨gp1, 0, none⟩) nt (Tr)) := fun V' hV => ⟨HTV.out.2, fun _ => ⟨gp1, 0, rfl, Nat.lt_of_lt_of_le hbk1.lt hV.size, fun j z hz => by
                rw [Nat.zero_add]
                refine ot_cell (HZ.out.1.pr.below hV) ?_
                rw [HZ.out.2.1, List.getElem?_append_left (List.getElem?_eq_some_iff.1 hz).1]
                exact hz⟩⟩
              have HTR : Hid (∀ V', Below V2.heap.size V2 V' → Nums V' at2 nt (Tr)) := fun V' hV => by
                obtain ⟨a, c, hv, _, _, h3, _⟩ := nums_own (HZ.out.1.tr.below hV)
                rw [HTV.out.2] at hv h3
                rw [HTV.out.1] at hv
                cases hv
                exact h3
              have HP2' : Hid (∀ V', Below V2.heap.size V2 V' → Nums V' (some ⟨gp1, o2, none⟩) (np1 - nt) (M.W)) := fun V' hV => ⟨by omega, fun hp => ⟨gp1, o2, rfl, Nat.lt_of_lt_of_le hbk1.lt hV.size, fun j z hz => by
                have e1 : o2 = nt := by rw [ho2', if_neg (by omega)]
                rw [e1]
                refine ot_cell (HZ.out.1.pr.below hV) ?_
                rw [HZ.out.2.1, ← HTV.out.2, List.getElem?_append_right (by omega), Nat.add_sub_cancel_left]
                exact hz⟩⟩
              have HW21 : Hid (∀ V', Below V2.heap.size V2 V' → Calls Try.prog 23 #[.pointer (some ⟨b, 0, none⟩)] V' fun e V'' => ∃ aw cw2, e = .returned (.slice aw (np1 - nt) cw2) ∧ Nums V'' aw (np1 - nt) (M.W) ∧ Below V'.heap.size V' V'') := fun V' hV => (waiting_is (HZ.out.1.q.below hV)).mono (by
                rintro e V'' ⟨v, rfl, h1, h2⟩
                obtain ⟨a, c, hv, _, _, h3, _⟩ := nums_own h1
                rw [show ((⟨v2, M.ev, M.W, M.E⟩ : Qu)).W.length = np1 - nt from by rw [show ((⟨v2, M.ev, M.W, M.E⟩ : Qu)).W = M.W from rfl]; omega] at hv h3
                exact ⟨a, c, by rw [hv], h3, h2⟩)
              clear hPL hbi hnp1 hPn ho2' hbk1 hc1 hc2 hc3 hc4 hB1 hpz
              go_wp2_with fail
              refine ord21s HL21 k5 HI21 HOF21 HNN HU HP1 HTR HP2' HW21 ?_
              intro V9 aw9 cw9 hV9
              have HF : Hid (OI w V9 b b5 (⟨v2, M.ev, M.W, M.E⟩ : Qu) (i + 1) (.slice (some ⟨gp1, 0, none⟩) np1 cp1) P tv Tr ∧ P = Tr ++ ((⟨v2, M.ev, M.W, M.E⟩ : Qu)).W ∧ ((⟨v2, M.ev, M.W, M.E⟩ : Qu)).W.Nodup ∧ (P).length ≤ i + 1) := ⟨HZ.out.1.below hV9, HZ.out.2⟩
              clear hV9 k5
              go_wp2
              go_roundw
              case rel => exact ⟨i + 1, (⟨v2, M.ev, M.W, M.E⟩ : Qu), P, Tr, tv, by simp, HQ.out, HF.out⟩
              case measure =>
                have := HQ.out
                simp only [intOf]
                omega
        · have q3 : (x.kind == 0) = false := by simpa using k0
          clear k0
          by_cases k1 : x.kind = 1
          · have q4 : (x.kind == 1) = true := by simp [k1]
            clear k1
            rcases plc_cases M.W x.id with ⟨_, hno⟩ | ⟨k, _, hk, hkf⟩
            · have HDN := drop_no H1.out.1.q hno
              have HZ : Hid (OI w V1 b b5 M (i + 1) u4 P tv Tr ∧ P = Tr ++ M.W ∧ M.W.Nodup ∧ P.length ≤ i + 1) := ⟨H1.out.1.more (by omega) (by have := HN.out; have := HQ.out; omega), HI.out.2.2.1, HI.out.2.2.2.1, by have := HI.out.2.2.2.2; omega⟩
              clear hno
              go_wp2_with fail
              refine HDN.mono ?_
              rintro e w4 ⟨rfl, rfl⟩
              clear HDN c0 c1
              have k5 : V1.cell? ⟨b5, 0, none⟩ = some tv := HZ.out.1.k5.cell rfl
              obtain ⟨at2, ct, htv, _⟩ := HZ.out.1.tr.read
              obtain ⟨nt, hnt⟩ : ∃ nt, (Tr).length = nt := ⟨_, rfl⟩
              rw [hnt] at htv
              rw [htv] at k5
              have HTV : Hid (tv = .slice at2 nt ct ∧ (Tr).length = nt) := ⟨htv, hnt⟩
              have HL21 : Hid (b5 < V1.heap.size) := HZ.out.1.k5.lt
              have hPL : (P).length = nt + (M.W).length := by rw [← hnt, HZ.out.2.1, List.length_append]
              have hbi : (P).length ≤ 140737488355328 := by have h1 := HZ.out.2.2.2; have h2 := HN.out; have h3 := HQ.out; omega
              obtain ⟨pz, hpz⟩ : ∃ pz, u4 = pz := ⟨_, rfl⟩
              rw [hpz] at HZ ⊢
              clear htv hnt
              rcases HZ.out.1.pr with ⟨hpv, hP0⟩ | ⟨gp1, cp1, L1, hpv, hB1, hbk1, hc1, hc2, hc3, hc4⟩
              · have hP : (P) = [] := List.map_eq_nil_iff.1 hP0
                have hP' : (P).length = 0 := by rw [hP]; rfl
                have hnt0 : nt = 0 := by omega
                have hW0 : (M.W) = [] := List.eq_nil_of_length_eq_zero (by omega)
                have hT0 : (Tr) = [] := List.eq_nil_of_length_eq_zero (by rw [HTV.out.2, hnt0])
                subst hpv
                rw [hnt0] at k5
                have HI21 : Hid (0 ≤ 0 ∧ 0 ≤ 0) := ⟨Nat.le_refl _, Nat.le_refl _⟩
                have HOF21 : Hid (0 = if 0 = 0 then 0 else 0) := rfl
                have HNN : Hid ((0 : Nat) ≤ 140737488355328 ∧ (0 : Nat) ≤ 140737488355328) := ⟨Nat.zero_le _, Nat.zero_le _⟩
                have HE : Hid (∀ (V' : World) (q : Option Addr), Nums V' q 0 []) := fun V' q => ⟨rfl, fun h => absurd h (by omega)⟩
                have HW21 : Hid (∀ V', Below V1.heap.size V1 V' → Calls Try.prog 23 #[.pointer (some ⟨b, 0, none⟩)] V' fun e V'' => ∃ aw cw2, e = .returned (.slice aw 0 cw2) ∧ Nums V'' aw 0 [] ∧ Below V'.heap.size V' V'') := fun V' hV => (waiting_is (HZ.out.1.q.below hV)).mono (by
                  rintro e V'' ⟨v, rfl, h1, h2⟩
                  obtain ⟨a, c, hv, _, _, h3, _⟩ := nums_own h1
                  rw [show (M).W.length = 0 from by rw [show (M).W = M.W from rfl, hW0]; rfl] at hv
                  exact ⟨a, c, by rw [hv], HE.out V'' a, h2⟩)
                clear hP0 hPL hbi hP hP' hnt0 hW0 hT0 hpz
                go_wp2_with fail
                refine ord21n (Tr := []) (l := []) (gp := 0) (n := 0) (cp := 0) (nt := 0) (o1 := 0) HL21 k5 HI21 HOF21 HNN HU (fun V' _ => HE.out V' _) (fun V' _ => HE.out V' _) (fun V' _ => HE.out V' _) HW21 ?_
                intro V9 aw9 cw9 hV9
                have HF : Hid (OI w V9 b b5 M (i + 1) (.slice none 0 0) P tv Tr ∧ P = Tr ++ (M).W ∧ (M).W.Nodup ∧ (P).length ≤ i + 1) := ⟨HZ.out.1.below hV9, HZ.out.2⟩
                clear hV9 k5
                go_wp2
                go_roundw
                case rel => exact ⟨i + 1, M, P, Tr, tv, by simp, HQ.out, HF.out⟩
                case measure =>
                  have := HQ.out
                  simp only [intOf]
                  omega
              · obtain ⟨np1, hnp1⟩ : ∃ np1, (ivs (P)).length = np1 := ⟨_, rfl⟩
                rw [hnp1] at hpv hc1 hc4
                have hPn : (P).length = np1 := by rw [← hnp1]; simp [ivs]
                subst hpv
                obtain ⟨o2, ho2'⟩ : ∃ o2, o2 = if cp1 = nt then 0 else nt := ⟨_, rfl⟩
                have HOF21 : Hid (o2 = if cp1 = nt then 0 else nt) := ho2'
                have HI21 : Hid (nt ≤ np1 ∧ np1 ≤ cp1) := ⟨by omega, hc1⟩
                have HNN : Hid (nt ≤ 140737488355328 ∧ np1 - nt ≤ 140737488355328) := ⟨by omega, by omega⟩
                have HP1 : Hid (∀ V', Below V1.heap.size V1 V' → Nums V' (some ⟨gp1, 0, none⟩) nt (Tr)) := fun V' hV => ⟨HTV.out.2, fun _ => ⟨gp1, 0, rfl, Nat.lt_of_lt_of_le hbk1.lt hV.size, fun j z hz => by
                  rw [Nat.zero_add]
                  refine ot_cell (HZ.out.1.pr.below hV) ?_
                  rw [HZ.out.2.1, List.getElem?_append_left (List.getElem?_eq_some_iff.1 hz).1]
                  exact hz⟩⟩
                have HTR : Hid (∀ V', Below V1.heap.size V1 V' → Nums V' at2 nt (Tr)) := fun V' hV => by
                  obtain ⟨a, c, hv, _, _, h3, _⟩ := nums_own (HZ.out.1.tr.below hV)
                  rw [HTV.out.2] at hv h3
                  rw [HTV.out.1] at hv
                  cases hv
                  exact h3
                have HP2' : Hid (∀ V', Below V1.heap.size V1 V' → Nums V' (some ⟨gp1, o2, none⟩) (np1 - nt) (M.W)) := fun V' hV => ⟨by omega, fun hp => ⟨gp1, o2, rfl, Nat.lt_of_lt_of_le hbk1.lt hV.size, fun j z hz => by
                  have e1 : o2 = nt := by rw [ho2', if_neg (by omega)]
                  rw [e1]
                  refine ot_cell (HZ.out.1.pr.below hV) ?_
                  rw [HZ.out.2.1, ← HTV.out.2, List.getElem?_append_right (by omega), Nat.add_sub_cancel_left]
                  exact hz⟩⟩
                have HW21 : Hid (∀ V', Below V1.heap.size V1 V' → Calls Try.prog 23 #[.pointer (some ⟨b, 0, none⟩)] V' fun e V'' => ∃ aw cw2, e = .returned (.slice aw (np1 - nt) cw2) ∧ Nums V'' aw (np1 - nt) (M.W) ∧ Below V'.heap.size V' V'') := fun V' hV => (waiting_is (HZ.out.1.q.below hV)).mono (by
                  rintro e V'' ⟨v, rfl, h1, h2⟩
                  obtain ⟨a, c, hv, _, _, h3, _⟩ := nums_own h1
                  rw [show (M).W.length = np1 - nt from by rw [show (M).W = M.W from rfl]; omega] at hv h3
                  exact ⟨a, c, by rw [hv], h3, h2⟩)
                clear hPL hbi hnp1 hPn ho2' hbk1 hc1 hc2 hc3 hc4 hB1 hpz
                go_wp2_with fail
                refine ord21s HL21 k5 HI21 HOF21 HNN HU HP1 HTR HP2' HW21 ?_
                intro V9 aw9 cw9 hV9
                have HF : Hid (OI w V9 b b5 M (i + 1) (.slice (some ⟨gp1, 0, none⟩) np1 cp1) P tv Tr ∧ P = Tr ++ (M).W ∧ (M).W.Nodup ∧ (P).length ≤ i + 1) := ⟨HZ.out.1.below hV9, HZ.out.2⟩
                clear hV9 k5
                go_wp2
                go_roundw
                case rel => exact ⟨i + 1, M, P, Tr, tv, by simp, HQ.out, HF.out⟩
                case measure =>
                  have := HQ.out
                  simp only [intOf]
                  omega
            · have HDY := drop_yes H1.out.1.q hk hkf (.inl rfl)
              have HK : Hid (M.W[k]? = some x.id) := hk
              clear hk hkf
              go_wp2_with fail
              refine HDY.mono ?_
              rintro e V2 ⟨rfl, v2, u2, hq2, ha2⟩
              have HO2 : Hid (OI w V2 b b5 ⟨v2, u2, M.W.eraseIdx k, M.E ++ [(x.id, 2, 201)]⟩ i u4 P tv Tr ∧ Blk V2 g7 32 x.cells) := ⟨H1.out.1.call hq2 ha2, ha2.2.blk H1.out.2.1 H1.out.2.2.2.1⟩
              have hlast := last_is (Tr := Tr) HI.out.2.2.2.1 HK.out
              rw [← HI.out.2.2.1] at hlast
              have hkl : Tr.length + k < P.length := (List.getElem?_eq_some_iff.1 hlast.1).1
              obtain ⟨kk, hkk⟩ : ∃ kk, Tr.length + k = kk := ⟨_, rfl⟩
              rw [hkk] at hlast hkl
              obtain ⟨gp, np, cp, hpv⟩ : ∃ gp np cp, u4 = .slice (some ⟨gp, 0, none⟩) np cp := by
                rcases HO2.out.1.pr with ⟨_, h0⟩ | ⟨g, c, L, h0, _⟩
                · have : P = [] := by simpa [ivs] using h0
                  rw [this] at hkl
                  simp at hkl
                · exact ⟨g, _, c, h0⟩
              subst hpv
              have hot := ot_len HO2.out.1.pr
              have HLS : Hid (P[kk]? = some x.id ∧ (∀ (j : Nat) (z : Int), kk < j → P[j]? = some z → z ≠ x.id) ∧ kk < np ∧ P.length = np ∧ np ≤ cp ∧ Tr.length + k = kk ∧ np ≤ i) := ⟨hlast.1, hlast.2, by omega, hot.1, hot.2.1, hkk, by have := HI.out.2.2.2.2; omega⟩
              have q5 : (np : Int) ≤ 3000000000000 := by have h1 := HLS.out.2.2.2.2.2.2; have h2 := HN.out; have h3 := HQ.out; omega
              have q6 : (0 : Int) < (np : Int) := by have := HLS.out.2.2.1; omega
              have q7 : 0 < np := by omega
              have hwr : IntKind.i64.wrap ((np : Int) - 1) = ((np - 1 : Nat) : Int) := by rw [IntKind.wrap_i64]; omega
              clear HDY hq2 ha2 hlast hkl hkk hot c0 c1
              go_wp2
              go_loopw [8] (fun u W => ∃ j : Nat, u = iv j ∧ Hid (kk ≤ j ∧ j < np ∧ Below V2.heap.size V2 W)) (fun u _ => (intOf u).toNat)
              case atStart => exact ⟨np - 1, by first | rfl | simp [hwr] | (simp; omega), by have := HLS.out.2.2.1; omega, by have := HLS.out.2.2.1; omega, Below.refl _ _⟩
              case round =>
                obtain ⟨j, rfl, HJ⟩ := hrel
                have hot := HO2.out.1.pr.below HJ.out.2.2
                obtain ⟨z, hz⟩ : ∃ z, P[j]? = some z := ⟨_, List.getElem?_eq_getElem (by rw [HLS.out.2.2.2.1]; exact HJ.out.2.1)⟩
                have kz : wr.cell? ⟨gp, j, none⟩ = some (iv z) := ot_cell hot hz
                have h7w := HO2.out.2.below HJ.out.2.2 HO2.out.2.lt
                have kx : wr.cell? ⟨g7, 1, none⟩ = some (iv x.id) := h7w.cell rfl
                have HL16 : Hid (gp < wr.heap.size ∧ g7 < wr.heap.size) := ⟨(ot_len hot).2.2, h7w.lt⟩
                have q8 : (j : Int) < (np : Int) := by have := HJ.out.2.1; omega
                have q9 : j < np := HJ.out.2.1
                have HZJ : Hid (P[j]? = some z) := hz
                clear hot hz h7w
                by_cases hj : j = kk
                · have b1 : (z != x.id) = false := by
                    have h1 := HZJ.out
                    rw [hj, HLS.out.1] at h1
                    cases h1
                    simp
                  have HJK : Hid (j = kk) := hj
                  clear hj
                  go_wp2_with fail
                  refine ord16f HL16 kz kx q8 q9 b1 ?_
                  intro V3 hV3
                  have hb23 := below_tr HJ.out.2.2 hV3
                  have HO3 : Hid (OI w V3 b b5 ⟨v2, u2, M.W.eraseIdx k, M.E ++ [(x.id, 2, 201)]⟩ i (.slice (some ⟨gp, 0, none⟩) np cp) P tv Tr) := HO2.out.1.below hb23
                  have q10 : ¬ ((j : Int) < 0) := by omega
                  have HB20 : Hid (w.heap.size ≤ V3.heap.size) := HO3.out.bel.size
                  have HI20 : Hid (j < np ∧ np ≤ 4000000000000 ∧ np ≤ cp) := ⟨q9, by omega, HLS.out.2.2.2.2.1⟩
                  obtain ⟨o1, ho1⟩ : ∃ o1, o1 = if cp = j + 1 then 0 else j + 1 := ⟨_, rfl⟩
                  have HOF : Hid (o1 = if cp = j + 1 then 0 else j + 1) := ho1
                  have HX20 : Hid (OT w.heap.size V3 3 (.slice (some ⟨gp, 0, none⟩) np cp) (ivs P)) := HO3.out.pr
                  clear hV3 hb23 kz kx HL16 ho1 b1
                  go_wp2_with fail
                  refine ord20 HB20 HI20 HOF HX20 HU ?_
                  intro V4 a4 hcut hV4
                  have HZ : Hid (OI w V4 b b5 ⟨v2, u2, M.W.eraseIdx k, M.E ++ [(x.id, 2, 201)]⟩ (i + 1) a4 (P.eraseIdx j) tv Tr ∧ P.eraseIdx j = Tr ++ M.W.eraseIdx k ∧ (M.W.eraseIdx k).Nodup ∧ (P.eraseIdx j).length ≤ i + 1) := by
                    have h := (HO3.out.below hV4).more (K' := i + 1) (by omega) (by have := HN.out; have := HQ.out; omega)
                    refine ⟨⟨h.q, h.bel, h.k5, h.tr, by rw [← ivs_erase]; exact hcut.1, h.old, h.o5, h.ot, h.s1, h.s2, fun g hg => ?_⟩, ?_, HI.out.2.2.2.1.eraseIdx k, ?_⟩
                    · rcases hcut.2 with e | ⟨g', e, hge⟩
                      · exact h.s3 g (by rw [e] at hg; exact hg)
                      · rw [e] at hg
                        cases hg
                        exact ⟨fun e => by have := HO3.out.q.lt _ e; omega, fun e => by have := HO3.out.k5.lt; omega, fun e => by have := HO3.out.tr.lt e; omega⟩
                    · rw [HJK.out, ← HLS.out.2.2.2.2.2.1, HI.out.2.2.1, erase_app]
                    · have h1 := HI.out.2.2.2.2
                      have h2 : (P.eraseIdx j).length ≤ P.length := List.length_eraseIdx_le _ _
                      omega
                  clear hcut hV4 HX20 HB20 HI20 HOF
                  have k5 : V4.cell? ⟨b5, 0, none⟩ = some tv := HZ.out.1.k5.cell rfl
                  obtain ⟨at2, ct, htv, _⟩ := HZ.out.1.tr.read
                  obtain ⟨nt, hnt⟩ : ∃ nt, (Tr).length = nt := ⟨_, rfl⟩
                  rw [hnt] at htv
                  rw [htv] at k5
                  have HTV : Hid (tv = .slice at2 nt ct ∧ (Tr).length = nt) := ⟨htv, hnt⟩
                  have HL21 : Hid (b5 < V4.heap.size) := HZ.out.1.k5.lt
                  have hPL : ((P.eraseIdx j)).length = nt + ((M.W.eraseIdx k)).length := by rw [← hnt, HZ.out.2.1, List.length_append]
                  have hbi : ((P.eraseIdx j)).length ≤ 140737488355328 := by have h1 := HZ.out.2.2.2; have h2 := HN.out; have h3 := HQ.out; omega
                  obtain ⟨pz, hpz⟩ : ∃ pz, a4 = pz := ⟨_, rfl⟩
                  rw [hpz] at HZ ⊢
                  clear htv hnt
                  rcases HZ.out.1.pr with ⟨hpv, hP0⟩ | ⟨gp1, cp1, L1, hpv, hB1, hbk1, hc1, hc2, hc3, hc4⟩
                  · have hP : ((P.eraseIdx j)) = [] := List.map_eq_nil_iff.1 hP0
                    have hP' : ((P.eraseIdx j)).length = 0 := by rw [hP]; rfl
                    have hnt0 : nt = 0 := by omega
                    have hW0 : ((M.W.eraseIdx k)) = [] := List.eq_nil_of_length_eq_zero (by omega)
                    have hT0 : (Tr) = [] := List.eq_nil_of_length_eq_zero (by rw [HTV.out.2, hnt0])
                    subst hpv
                    rw [hnt0] at k5
                    have HI21 : Hid (0 ≤ 0 ∧ 0 ≤ 0) := ⟨Nat.le_refl _, Nat.le_refl _⟩
                    have HOF21 : Hid (0 = if 0 = 0 then 0 else 0) := rfl
                    have HNN : Hid ((0 : Nat) ≤ 140737488355328 ∧ (0 : Nat) ≤ 140737488355328) := ⟨Nat.zero_le _, Nat.zero_le _⟩
                    have HE : Hid (∀ (V' : World) (q : Option Addr), Nums V' q 0 []) := fun V' q => ⟨rfl, fun h => absurd h (by omega)⟩
                    have HW21 : Hid (∀ V', Below V4.heap.size V4 V' → Calls Try.prog 23 #[.pointer (some ⟨b, 0, none⟩)] V' fun e V'' => ∃ aw cw2, e = .returned (.slice aw 0 cw2) ∧ Nums V'' aw 0 [] ∧ Below V'.heap.size V' V'') := fun V' hV => (waiting_is (HZ.out.1.q.below hV)).mono (by
                      rintro e V'' ⟨v, rfl, h1, h2⟩
                      obtain ⟨a, c, hv, _, _, h3, _⟩ := nums_own h1
                      rw [show ((⟨v2, u2, M.W.eraseIdx k, M.E ++ [(x.id, 2, 201)]⟩ : Qu)).W.length = 0 from by rw [show ((⟨v2, u2, M.W.eraseIdx k, M.E ++ [(x.id, 2, 201)]⟩ : Qu)).W = (M.W.eraseIdx k) from rfl, hW0]; rfl] at hv
                      exact ⟨a, c, by rw [hv], HE.out V'' a, h2⟩)
                    clear hP0 hPL hbi hP hP' hnt0 hW0 hT0 hpz
                    go_wp2_with fail
                    refine ord21n (Tr := []) (l := []) (gp := 0) (n := 0) (cp := 0) (nt := 0) (o1 := 0) HL21 k5 HI21 HOF21 HNN HU (fun V' _ => HE.out V' _) (fun V' _ => HE.out V' _) (fun V' _ => HE.out V' _) HW21 ?_
                    intro V9 aw9 cw9 hV9
                    have HF : Hid (OI w V9 b b5 (⟨v2, u2, M.W.eraseIdx k, M.E ++ [(x.id, 2, 201)]⟩ : Qu) (i + 1) (.slice none 0 0) (P.eraseIdx j) tv Tr ∧ (P.eraseIdx j) = Tr ++ ((⟨v2, u2, M.W.eraseIdx k, M.E ++ [(x.id, 2, 201)]⟩ : Qu)).W ∧ ((⟨v2, u2, M.W.eraseIdx k, M.E ++ [(x.id, 2, 201)]⟩ : Qu)).W.Nodup ∧ ((P.eraseIdx j)).length ≤ i + 1) := ⟨HZ.out.1.below hV9, HZ.out.2⟩
                    clear hV9 k5
                    go_wp2
                    go_roundw
                    case rel => exact ⟨i + 1, (⟨v2, u2, M.W.eraseIdx k, M.E ++ [(x.id, 2, 201)]⟩ : Qu), (P.eraseIdx j), Tr, tv, by simp, HQ.out, HF.out⟩
                    case measure =>
                      have := HQ.out
                      simp only [intOf]
                      omega
                  · obtain ⟨np1, hnp1⟩ : ∃ np1, (ivs ((P.eraseIdx j))).length = np1 := ⟨_, rfl⟩
                    rw [hnp1] at hpv hc1 hc4
                    have hPn : ((P.eraseIdx j)).length = np1 := by rw [← hnp1]; simp [ivs]
                    subst hpv
                    obtain ⟨o2, ho2'⟩ : ∃ o2, o2 = if cp1 = nt then 0 else nt := ⟨_, rfl⟩
                    have HOF21 : Hid (o2 = if cp1 = nt then 0 else nt) := ho2'
                    have HI21 : Hid (nt ≤ np1 ∧ np1 ≤ cp1) := ⟨by omega, hc1⟩
                    have HNN : Hid (nt ≤ 140737488355328 ∧ np1 - nt ≤ 140737488355328) := ⟨by omega, by omega⟩
                    have HP1 : Hid (∀ V', Below V4.heap.size V4 V' → Nums V' (some ⟨gp1, 0, none⟩) nt (Tr)) := fun V' hV => ⟨HTV.out.2, fun _ => ⟨gp1, 0, rfl, Nat.lt_of_lt_of_le hbk1.lt hV.size, fun j z hz => by
                      rw [Nat.zero_add]
                      refine ot_cell (HZ.out.1.pr.below hV) ?_
                      rw [HZ.out.2.1, List.getElem?_append_left (List.getElem?_eq_some_iff.1 hz).1]
                      exact hz⟩⟩
                    have HTR : Hid (∀ V', Below V4.heap.size V4 V' → Nums V' at2 nt (Tr)) := fun V' hV => by
                      obtain ⟨a, c, hv, _, _, h3, _⟩ := nums_own (HZ.out.1.tr.below hV)
                      rw [HTV.out.2] at hv h3
                      rw [HTV.out.1] at hv
                      cases hv
                      exact h3
                    have HP2' : Hid (∀ V', Below V4.heap.size V4 V' → Nums V' (some ⟨gp1, o2, none⟩) (np1 - nt) ((M.W.eraseIdx k))) := fun V' hV => ⟨by omega, fun hp => ⟨gp1, o2, rfl, Nat.lt_of_lt_of_le hbk1.lt hV.size, fun j z hz => by
                      have e1 : o2 = nt := by rw [ho2', if_neg (by omega)]
                      rw [e1]
                      refine ot_cell (HZ.out.1.pr.below hV) ?_
                      rw [HZ.out.2.1, ← HTV.out.2, List.getElem?_append_right (by omega), Nat.add_sub_cancel_left]
                      exact hz⟩⟩
                    have HW21 : Hid (∀ V', Below V4.heap.size V4 V' → Calls Try.prog 23 #[.pointer (some ⟨b, 0, none⟩)] V' fun e V'' => ∃ aw cw2, e = .returned (.slice aw (np1 - nt) cw2) ∧ Nums V'' aw (np1 - nt) ((M.W.eraseIdx k)) ∧ Below V'.heap.size V' V'') := fun V' hV => (waiting_is (HZ.out.1.q.below hV)).mono (by
                      rintro e V'' ⟨v, rfl, h1, h2⟩
                      obtain ⟨a, c, hv, _, _, h3, _⟩ := nums_own h1
                      rw [show ((⟨v2, u2, M.W.eraseIdx k, M.E ++ [(x.id, 2, 201)]⟩ : Qu)).W.length = np1 - nt from by rw [show ((⟨v2, u2, M.W.eraseIdx k, M.E ++ [(x.id, 2, 201)]⟩ : Qu)).W = (M.W.eraseIdx k) from rfl]; omega] at hv h3
                      exact ⟨a, c, by rw [hv], h3, h2⟩)
                    clear hPL hbi hnp1 hPn ho2' hbk1 hc1 hc2 hc3 hc4 hB1 hpz
                    go_wp2_with fail
                    refine ord21s HL21 k5 HI21 HOF21 HNN HU HP1 HTR HP2' HW21 ?_
                    intro V9 aw9 cw9 hV9
                    have HF : Hid (OI w V9 b b5 (⟨v2, u2, M.W.eraseIdx k, M.E ++ [(x.id, 2, 201)]⟩ : Qu) (i + 1) (.slice (some ⟨gp1, 0, none⟩) np1 cp1) (P.eraseIdx j) tv Tr ∧ (P.eraseIdx j) = Tr ++ ((⟨v2, u2, M.W.eraseIdx k, M.E ++ [(x.id, 2, 201)]⟩ : Qu)).W ∧ ((⟨v2, u2, M.W.eraseIdx k, M.E ++ [(x.id, 2, 201)]⟩ : Qu)).W.Nodup ∧ ((P.eraseIdx j)).length ≤ i + 1) := ⟨HZ.out.1.below hV9, HZ.out.2⟩
                    clear hV9 k5
                    go_wp2
                    go_roundw
                    case rel => exact ⟨i + 1, (⟨v2, u2, M.W.eraseIdx k, M.E ++ [(x.id, 2, 201)]⟩ : Qu), (P.eraseIdx j), Tr, tv, by simp, HQ.out, HF.out⟩
                    case measure =>
                      have := HQ.out
                      simp only [intOf]
                      omega
                · have HJK : Hid (kk < j) := by have := HJ.out.1; show _ < _; omega
                  have b1 : (z != x.id) = true := by
                    have := HLS.out.2.1 j z HJK.out HZJ.out
                    simpa using this
                  have hwj : IntKind.i64.wrap ((j : Int) - 1) = ((j - 1 : Nat) : Int) := by have := HJK.out; rw [IntKind.wrap_i64]; omega
                  clear hj
                  go_wp2_with fail
                  refine ord16t HL16 kz kx q8 q9 b1 ?_
                  intro V3 hV3
                  have HV3 : Hid (Below V2.heap.size V2 V3) := below_tr HJ.out.2.2 hV3
                  clear hV3 kz kx HL16 b1
                  go_wp2
                  go_roundw
                  case rel => exact ⟨j - 1, by first | rfl | simp [hwj] | (simp; omega), by have := HJK.out; omega, by have := HJ.out.2.1; omega, HV3.out⟩
                  case measure =>
                    have := HJK.out
                    simp only [intOf]
                    omega
          · have q4 : (x.kind == 1) = false := by simpa using k1
            clear k1
            by_cases hW : M.W = []
            · have HST := step_none (F := 27) (cs := #[.pointer (some ⟨b5, 0, none⟩), .pointer (some ⟨g7, 0, none⟩)]) H1.out.1.q hW
              clear hW
              go_wp2_with fail
              refine HST.mono ?_
              rintro e V2 ⟨rfl, hb2⟩
              have HZ : Hid (OI w V2 b b5 M (i + 1) u4 P tv Tr ∧ P = Tr ++ M.W ∧ M.W.Nodup ∧ P.length ≤ i + 1) := ⟨(H1.out.1.below hb2).more (by omega) (by have := HN.out; have := HQ.out; omega), HI.out.2.2.1, HI.out.2.2.2.1, by have := HI.out.2.2.2.2; omega⟩
              clear HST hb2 c0 c1
              have k5 : V2.cell? ⟨b5, 0, none⟩ = some tv := HZ.out.1.k5.cell rfl
              obtain ⟨at2, ct, htv, _⟩ := HZ.out.1.tr.read
              obtain ⟨nt, hnt⟩ : ∃ nt, (Tr).length = nt := ⟨_, rfl⟩
              rw [hnt] at htv
              rw [htv] at k5
              have HTV : Hid (tv = .slice at2 nt ct ∧ (Tr).length = nt) := ⟨htv, hnt⟩
              have HL21 : Hid (b5 < V2.heap.size) := HZ.out.1.k5.lt
              have hPL : (P).length = nt + (M.W).length := by rw [← hnt, HZ.out.2.1, List.length_append]
              have hbi : (P).length ≤ 140737488355328 := by have h1 := HZ.out.2.2.2; have h2 := HN.out; have h3 := HQ.out; omega
              obtain ⟨pz, hpz⟩ : ∃ pz, u4 = pz := ⟨_, rfl⟩
              rw [hpz] at HZ ⊢
              clear htv hnt
              rcases HZ.out.1.pr with ⟨hpv, hP0⟩ | ⟨gp1, cp1, L1, hpv, hB1, hbk1, hc1, hc2, hc3, hc4⟩
              · have hP : (P) = [] := List.map_eq_nil_iff.1 hP0
                have hP' : (P).length = 0 := by rw [hP]; rfl
                have hnt0 : nt = 0 := by omega
                have hW0 : (M.W) = [] := List.eq_nil_of_length_eq_zero (by omega)
                have hT0 : (Tr) = [] := List.eq_nil_of_length_eq_zero (by rw [HTV.out.2, hnt0])
                subst hpv
                rw [hnt0] at k5
                have HI21 : Hid (0 ≤ 0 ∧ 0 ≤ 0) := ⟨Nat.le_refl _, Nat.le_refl _⟩
                have HOF21 : Hid (0 = if 0 = 0 then 0 else 0) := rfl
                have HNN : Hid ((0 : Nat) ≤ 140737488355328 ∧ (0 : Nat) ≤ 140737488355328) := ⟨Nat.zero_le _, Nat.zero_le _⟩
                have HE : Hid (∀ (V' : World) (q : Option Addr), Nums V' q 0 []) := fun V' q => ⟨rfl, fun h => absurd h (by omega)⟩
                have HW21 : Hid (∀ V', Below V2.heap.size V2 V' → Calls Try.prog 23 #[.pointer (some ⟨b, 0, none⟩)] V' fun e V'' => ∃ aw cw2, e = .returned (.slice aw 0 cw2) ∧ Nums V'' aw 0 [] ∧ Below V'.heap.size V' V'') := fun V' hV => (waiting_is (HZ.out.1.q.below hV)).mono (by
                  rintro e V'' ⟨v, rfl, h1, h2⟩
                  obtain ⟨a, c, hv, _, _, h3, _⟩ := nums_own h1
                  rw [show (M).W.length = 0 from by rw [show (M).W = M.W from rfl, hW0]; rfl] at hv
                  exact ⟨a, c, by rw [hv], HE.out V'' a, h2⟩)
                clear hP0 hPL hbi hP hP' hnt0 hW0 hT0 hpz
                go_wp2_with fail
                refine ord21n (Tr := []) (l := []) (gp := 0) (n := 0) (cp := 0) (nt := 0) (o1 := 0) HL21 k5 HI21 HOF21 HNN HU (fun V' _ => HE.out V' _) (fun V' _ => HE.out V' _) (fun V' _ => HE.out V' _) HW21 ?_
                intro V9 aw9 cw9 hV9
                have HF : Hid (OI w V9 b b5 M (i + 1) (.slice none 0 0) P tv Tr ∧ P = Tr ++ (M).W ∧ (M).W.Nodup ∧ (P).length ≤ i + 1) := ⟨HZ.out.1.below hV9, HZ.out.2⟩
                clear hV9 k5
                go_wp2
                go_roundw
                case rel => exact ⟨i + 1, M, P, Tr, tv, by simp, HQ.out, HF.out⟩
                case measure =>
                  have := HQ.out
                  simp only [intOf]
                  omega
              · obtain ⟨np1, hnp1⟩ : ∃ np1, (ivs (P)).length = np1 := ⟨_, rfl⟩
                rw [hnp1] at hpv hc1 hc4
                have hPn : (P).length = np1 := by rw [← hnp1]; simp [ivs]
                subst hpv
                obtain ⟨o2, ho2'⟩ : ∃ o2, o2 = if cp1 = nt then 0 else nt := ⟨_, rfl⟩
                have HOF21 : Hid (o2 = if cp1 = nt then 0 else nt) := ho2'
                have HI21 : Hid (nt ≤ np1 ∧ np1 ≤ cp1) := ⟨by omega, hc1⟩
                have HNN : Hid (nt ≤ 140737488355328 ∧ np1 - nt ≤ 140737488355328) := ⟨by omega, by omega⟩
                have HP1 : Hid (∀ V', Below V2.heap.size V2 V' → Nums V' (some ⟨gp1, 0, none⟩) nt (Tr)) := fun V' hV => ⟨HTV.out.2, fun _ => ⟨gp1, 0, rfl, Nat.lt_of_lt_of_le hbk1.lt hV.size, fun j z hz => by
                  rw [Nat.zero_add]
                  refine ot_cell (HZ.out.1.pr.below hV) ?_
                  rw [HZ.out.2.1, List.getElem?_append_left (List.getElem?_eq_some_iff.1 hz).1]
                  exact hz⟩⟩
                have HTR : Hid (∀ V', Below V2.heap.size V2 V' → Nums V' at2 nt (Tr)) := fun V' hV => by
                  obtain ⟨a, c, hv, _, _, h3, _⟩ := nums_own (HZ.out.1.tr.below hV)
                  rw [HTV.out.2] at hv h3
                  rw [HTV.out.1] at hv
                  cases hv
                  exact h3
                have HP2' : Hid (∀ V', Below V2.heap.size V2 V' → Nums V' (some ⟨gp1, o2, none⟩) (np1 - nt) (M.W)) := fun V' hV => ⟨by omega, fun hp => ⟨gp1, o2, rfl, Nat.lt_of_lt_of_le hbk1.lt hV.size, fun j z hz => by
                  have e1 : o2 = nt := by rw [ho2', if_neg (by omega)]
                  rw [e1]
                  refine ot_cell (HZ.out.1.pr.below hV) ?_
                  rw [HZ.out.2.1, ← HTV.out.2, List.getElem?_append_right (by omega), Nat.add_sub_cancel_left]
                  exact hz⟩⟩
                have HW21 : Hid (∀ V', Below V2.heap.size V2 V' → Calls Try.prog 23 #[.pointer (some ⟨b, 0, none⟩)] V' fun e V'' => ∃ aw cw2, e = .returned (.slice aw (np1 - nt) cw2) ∧ Nums V'' aw (np1 - nt) (M.W) ∧ Below V'.heap.size V' V'') := fun V' hV => (waiting_is (HZ.out.1.q.below hV)).mono (by
                  rintro e V'' ⟨v, rfl, h1, h2⟩
                  obtain ⟨a, c, hv, _, _, h3, _⟩ := nums_own h1
                  rw [show (M).W.length = np1 - nt from by rw [show (M).W = M.W from rfl]; omega] at hv h3
                  exact ⟨a, c, by rw [hv], h3, h2⟩)
                clear hPL hbi hnp1 hPn ho2' hbk1 hc1 hc2 hc3 hc4 hB1 hpz
                go_wp2_with fail
                refine ord21s HL21 k5 HI21 HOF21 HNN HU HP1 HTR HP2' HW21 ?_
                intro V9 aw9 cw9 hV9
                have HF : Hid (OI w V9 b b5 M (i + 1) (.slice (some ⟨gp1, 0, none⟩) np1 cp1) P tv Tr ∧ P = Tr ++ (M).W ∧ (M).W.Nodup ∧ (P).length ≤ i + 1) := ⟨HZ.out.1.below hV9, HZ.out.2⟩
                clear hV9 k5
                go_wp2
                go_roundw
                case rel => exact ⟨i + 1, M, P, Tr, tv, by simp, HQ.out, HF.out⟩
                case measure =>
                  have := HQ.out
                  simp only [intOf]
                  omega
            · obtain ⟨z, hz⟩ : ∃ z, M.W[0]? = some z := by
                cases hM : M.W with
                | nil => exact absurd hM hW
                | cons z t => exact ⟨z, rfl⟩
              have HST := step27 (y := x) (x := z) H1.out.1 H1.out.2.1 H1.out.2.2.1 H1.out.2.2.2.1 H1.out.2.2.2.2.1 H1.out.2.2.2.2.2.1 H1.out.2.2.2.2.2.2 hz (by have h1 := HI.out.2.2.2.2; have h2 := HN.out; have h3 := HQ.out; rw [HI.out.2.2.1] at h1; simp at h1; omega)
              have HZ0 : Hid (M.W[0]? = some z) := hz
              clear hW hz
              go_wp2_with fail
              refine HST.mono ?_
              rintro e V2 ⟨z1, z2, tv2, M2, ⟨v2, u2, E2, hM2⟩, rfl, ho2⟩
              have HZ : Hid (OI w V2 b b5 M2 (i + 1) u4 P tv2 (Tr ++ [z]) ∧ P = (Tr ++ [z]) ++ M2.W ∧ M2.W.Nodup ∧ P.length ≤ i + 1) := by
                refine ⟨ho2.more (by omega) (by have := HN.out; have := HQ.out; omega), ?_, ?_, by have := HI.out.2.2.2.2; omega⟩
                · rw [hM2, HI.out.2.2.1]
                  have h1 := HZ0.out
                  cases hM : M.W with
                  | nil => rw [hM] at h1; cases h1
                  | cons z' t => rw [hM] at h1; simp at h1; subst h1; simp
                · rw [hM2]; exact HI.out.2.2.2.1.eraseIdx 0
              clear HST ho2 hM2 c0 c1
              have k5 : V2.cell? ⟨b5, 0, none⟩ = some tv2 := HZ.out.1.k5.cell rfl
              obtain ⟨at2, ct, htv, _⟩ := HZ.out.1.tr.read
              obtain ⟨nt, hnt⟩ : ∃ nt, ((Tr ++ [z])).length = nt := ⟨_, rfl⟩
              rw [hnt] at htv
              rw [htv] at k5
              have HTV : Hid (tv2 = .slice at2 nt ct ∧ ((Tr ++ [z])).length = nt) := ⟨htv, hnt⟩
              have HL21 : Hid (b5 < V2.heap.size) := HZ.out.1.k5.lt
              have hPL : (P).length = nt + (M2.W).length := by rw [← hnt, HZ.out.2.1, List.length_append]
              have hbi : (P).length ≤ 140737488355328 := by have h1 := HZ.out.2.2.2; have h2 := HN.out; have h3 := HQ.out; omega
              obtain ⟨pz, hpz⟩ : ∃ pz, u4 = pz := ⟨_, rfl⟩
              rw [hpz] at HZ ⊢
              clear htv hnt
              rcases HZ.out.1.pr with ⟨hpv, hP0⟩ | ⟨gp1, cp1, L1, hpv, hB1, hbk1, hc1, hc2, hc3, hc4⟩
              · have hP : (P) = [] := List.map_eq_nil_iff.1 hP0
                have hP' : (P).length = 0 := by rw [hP]; rfl
                have hnt0 : nt = 0 := by omega
                have hW0 : (M2.W) = [] := List.eq_nil_of_length_eq_zero (by omega)
                have hT0 : ((Tr ++ [z])) = [] := List.eq_nil_of_length_eq_zero (by rw [HTV.out.2, hnt0])
                subst hpv
                rw [hnt0] at k5
                have HI21 : Hid (0 ≤ 0 ∧ 0 ≤ 0) := ⟨Nat.le_refl _, Nat.le_refl _⟩
                have HOF21 : Hid (0 = if 0 = 0 then 0 else 0) := rfl
                have HNN : Hid ((0 : Nat) ≤ 140737488355328 ∧ (0 : Nat) ≤ 140737488355328) := ⟨Nat.zero_le _, Nat.zero_le _⟩
                have HE : Hid (∀ (V' : World) (q : Option Addr), Nums V' q 0 []) := fun V' q => ⟨rfl, fun h => absurd h (by omega)⟩
                have HW21 : Hid (∀ V', Below V2.heap.size V2 V' → Calls Try.prog 23 #[.pointer (some ⟨b, 0, none⟩)] V' fun e V'' => ∃ aw cw2, e = .returned (.slice aw 0 cw2) ∧ Nums V'' aw 0 [] ∧ Below V'.heap.size V' V'') := fun V' hV => (waiting_is (HZ.out.1.q.below hV)).mono (by
                  rintro e V'' ⟨v, rfl, h1, h2⟩
                  obtain ⟨a, c, hv, _, _, h3, _⟩ := nums_own h1
                  rw [show (M2).W.length = 0 from by rw [show (M2).W = M2.W from rfl, hW0]; rfl] at hv
                  exact ⟨a, c, by rw [hv], HE.out V'' a, h2⟩)
                clear hP0 hPL hbi hP hP' hnt0 hW0 hT0 hpz
                go_wp2_with fail
                refine ord21n (Tr := []) (l := []) (gp := 0) (n := 0) (cp := 0) (nt := 0) (o1 := 0) HL21 k5 HI21 HOF21 HNN HU (fun V' _ => HE.out V' _) (fun V' _ => HE.out V' _) (fun V' _ => HE.out V' _) HW21 ?_
                intro V9 aw9 cw9 hV9
                have HF : Hid (OI w V9 b b5 M2 (i + 1) (.slice none 0 0) P tv2 (Tr ++ [z]) ∧ P = (Tr ++ [z]) ++ (M2).W ∧ (M2).W.Nodup ∧ (P).length ≤ i + 1) := ⟨HZ.out.1.below hV9, HZ.out.2⟩
                clear hV9 k5
                go_wp2
                go_roundw
                case rel => exact ⟨i + 1, M2, P, (Tr ++ [z]), tv2, by simp, HQ.out, HF.out⟩
                case measure =>
                  have := HQ.out
                  simp only [intOf]
                  omega
              · obtain ⟨np1, hnp1⟩ : ∃ np1, (ivs (P)).length = np1 := ⟨_, rfl⟩
                rw [hnp1] at hpv hc1 hc4
                have hPn : (P).length = np1 := by rw [← hnp1]; simp [ivs]
                subst hpv
                obtain ⟨o2, ho2'⟩ : ∃ o2, o2 = if cp1 = nt then 0 else nt := ⟨_, rfl⟩
                have HOF21 : Hid (o2 = if cp1 = nt then 0 else nt) := ho2'
                have HI21 : Hid (nt ≤ np1 ∧ np1 ≤ cp1) := ⟨by omega, hc1⟩
                have HNN : Hid (nt ≤ 140737488355328 ∧ np1 - nt ≤ 140737488355328) := ⟨by omega, by omega⟩
                have HP1 : Hid (∀ V', Below V2.heap.size V2 V' → Nums V' (some ⟨gp1, 0, none⟩) nt ((Tr ++ [z]))) := fun V' hV => ⟨HTV.out.2, fun _ => ⟨gp1, 0, rfl, Nat.lt_of_lt_of_le hbk1.lt hV.size, fun j z hz => by
                  rw [Nat.zero_add]
                  refine ot_cell (HZ.out.1.pr.below hV) ?_
                  rw [HZ.out.2.1, List.getElem?_append_left (List.getElem?_eq_some_iff.1 hz).1]
                  exact hz⟩⟩
                have HTR : Hid (∀ V', Below V2.heap.size V2 V' → Nums V' at2 nt ((Tr ++ [z]))) := fun V' hV => by
                  obtain ⟨a, c, hv, _, _, h3, _⟩ := nums_own (HZ.out.1.tr.below hV)
                  rw [HTV.out.2] at hv h3
                  rw [HTV.out.1] at hv
                  cases hv
                  exact h3
                have HP2' : Hid (∀ V', Below V2.heap.size V2 V' → Nums V' (some ⟨gp1, o2, none⟩) (np1 - nt) (M2.W)) := fun V' hV => ⟨by omega, fun hp => ⟨gp1, o2, rfl, Nat.lt_of_lt_of_le hbk1.lt hV.size, fun j z hz => by
                  have e1 : o2 = nt := by rw [ho2', if_neg (by omega)]
                  rw [e1]
                  refine ot_cell (HZ.out.1.pr.below hV) ?_
                  rw [HZ.out.2.1, ← HTV.out.2, List.getElem?_append_right (by omega), Nat.add_sub_cancel_left]
                  exact hz⟩⟩
                have HW21 : Hid (∀ V', Below V2.heap.size V2 V' → Calls Try.prog 23 #[.pointer (some ⟨b, 0, none⟩)] V' fun e V'' => ∃ aw cw2, e = .returned (.slice aw (np1 - nt) cw2) ∧ Nums V'' aw (np1 - nt) (M2.W) ∧ Below V'.heap.size V' V'') := fun V' hV => (waiting_is (HZ.out.1.q.below hV)).mono (by
                  rintro e V'' ⟨v, rfl, h1, h2⟩
                  obtain ⟨a, c, hv, _, _, h3, _⟩ := nums_own h1
                  rw [show (M2).W.length = np1 - nt from by rw [show (M2).W = M2.W from rfl]; omega] at hv h3
                  exact ⟨a, c, by rw [hv], h3, h2⟩)
                clear hPL hbi hnp1 hPn ho2' hbk1 hc1 hc2 hc3 hc4 hB1 hpz
                go_wp2_with fail
                refine ord21s HL21 k5 HI21 HOF21 HNN HU HP1 HTR HP2' HW21 ?_
                intro V9 aw9 cw9 hV9
                have HF : Hid (OI w V9 b b5 M2 (i + 1) (.slice (some ⟨gp1, 0, none⟩) np1 cp1) P tv2 (Tr ++ [z]) ∧ P = (Tr ++ [z]) ++ (M2).W ∧ (M2).W.Nodup ∧ (P).length ≤ i + 1) := ⟨HZ.out.1.below hV9, HZ.out.2⟩
                clear hV9 k5
                go_wp2
                go_roundw
                case rel => exact ⟨i + 1, M2, P, (Tr ++ [z]), tv2, by simp, HQ.out, HF.out⟩
                case measure =>
                  have := HQ.out
                  simp only [intOf]
                  omega
#print axioms order_law
end Go.Proofs.Ytipipckbcelphaa.Oct
