/-
  Layer 21 (queue): QueueProgress.
-/
import Derived.Test.YtipipckbcelphaaQpg
namespace Go.Proofs.Ytipipckbcelphaa.Oct
open Go.RowKit Go.Shelf
set_option linter.unusedSimpArgs false
set_option linter.unusedVariables false

theorem rem_of (cut : Int) {n : Nat} (hn : 0 < n) : ∃ P : Nat, (IntKind.u64.wrap cut).tmod (n : Int) = (P : Int) ∧ P < n := by
  have hwr : IntKind.u64.wrap cut = cut % 18446744073709551616 := IntKind.wrap_u64 cut
  have hnn : 0 ≤ IntKind.u64.wrap cut := by rw [hwr]; omega
  have htm : (IntKind.u64.wrap cut).tmod (n : Int) = (IntKind.u64.wrap cut) % (n : Int) := Int.tmod_eq_emod_of_nonneg hnn
  have hlo : 0 ≤ (IntKind.u64.wrap cut) % (n : Int) := Int.emod_nonneg _ (by omega)
  have hhi : (IntKind.u64.wrap cut) % (n : Int) < (n : Int) := Int.emod_lt_of_pos _ (by omega)
  exact ⟨((IntKind.u64.wrap cut) % (n : Int)).toNat, by rw [htm]; omega, by omega⟩
theorem tmod_of (i : Nat) {n : Nat} (hn : 0 < n) : ∃ P : Nat, ((i : Int)).tmod (n : Int) = (P : Int) ∧ P < n := ⟨i % n, by rw [Int.tmod_eq_emod_of_nonneg (by omega)]; rfl, Nat.mod_lt _ hn⟩
theorem own_base0 {w : World} {B : Nat} {v : Value} (h : w.ownsRow B 38 3 v ([] : List (Int × Int × Int)).length (qdC [])) : ∃ a c, v = .slice a 0 c ∧ True := by
  rcases h.2 with ⟨rfl, _⟩ | ⟨g, cap, cur, rfl, _⟩
  · exact ⟨_, _, rfl, trivial⟩
  · exact ⟨_, _, rfl, trivial⟩
theorem qdC_at : ∀ {l : List (Int × Int × Int)} {i : Nat} {x : Int × Int × Int}, l[i]? = some x → (qdC l)[i * 3]? = some (iv x.1)
  | [], i, x, h => by simp at h
  | y :: l, 0, x, h => by simp at h; subst h; rfl
  | y :: l, i + 1, x, h => by
    have ih := qdC_at (l := l) (i := i) (x := x) (by simpa using h)
    simp only [qdC, List.flatMap_cons] at *
    rw [List.getElem?_append_right (by simp [qd]; omega)]
    rw [show (i + 1) * 3 - (qd y).length = i * 3 by simp [qd]; omega]
    exact ih
set_option maxRecDepth 100000 in
theorem try28 (x r : Int) (g : Nat) (A : World) (h : A.cell? ⟨g, 0, none⟩ = some (iv r)) : Calls Try.prog 28 #[iv x, .pointer (some ⟨g, 0, none⟩)] A fun e V => e = .returned (iv r) ∧ A = V := by
  go_enter Try.func28, Try.ntmps28
  go_wp2
  go_ret
  exact ⟨rfl, rfl⟩
set_option maxRecDepth 100000 in
set_option maxHeartbeats 8000000 in
theorem progress_law (l : List Int) (a : Option Addr) (n cp : Nat) (at_ : Int) (ls : List Int) (a2 : Option Addr) (n2 cp2 : Nat) (w : World) (hl : ArgN w a n cp l) (hl2 : ArgN w a2 n2 cp2 ls) :
    Calls Try.prog 5 #[.slice a n cp, iv at_, .slice a2 n2 cp2] w fun e w' => e = .returned (.bool true) ∧ Below w.heap.size w w' := by
  have HNEW := new_is w
  have hz38 := zero38
  have hmf : ∀ (fn : Fn) (first cap : Array Value) (w : World), (Instr.makeFunc fn first cap).run Try.prog w = .ok (.func fn first cap) w := fun _ _ _ _ => rfl
  have HL : Hid (ArgN w a n cp l) := hl
  have HL2 : Hid (ArgN w a2 n2 cp2 ls) := hl2
  have qn : (n : Int) ≤ 9223372036854775807 := by have h1 := hl.2.1; have h2 := hl.2.2.1; unfold maxLen at h2; omega
  have qn2 : (n2 : Int) ≤ 9223372036854775807 := by have h1 := hl2.2.1; have h2 := hl2.2.2.1; unfold maxLen at h2; omega
  clear hl hl2
  go_enter Try.func5, Try.ntmps5
  go_wp2_with fail
  refine HNEW.mono ?_
  rintro e w1 ⟨rfl, hq0, hb1⟩
  obtain ⟨b, hbb⟩ : ∃ b, w.heap.size = b := ⟨_, rfl⟩
  rw [hbb] at hq0 ⊢
  have HP0 : Hid (PI w w1 b ⟨.slice none 0 0, .slice none 0 0, [], []⟩ .nilFunc 0) := ⟨hq0, hb1, by intro k hk; simp [Qu.bl, Value.ownBlock] at hk; omega⟩
  clear HNEW hq0 hb1 hbb
  go_wp2
  go_loopw [20] (fun u W => ∃ (i : Nat) (M : Qu), u = iv i ∧ Hid (i ≤ n ∧ PI w W b M .nilFunc (min i 100) ∧ M.W.Nodup ∧ M.E = [])) (fun u _ => n - (intOf u).toNat)
  case atStart => exact ⟨0, _, rfl, Nat.zero_le _, HP0.out, List.nodup_nil, rfl⟩
  case round =>
    obtain ⟨i, M, rfl, HI⟩ := hrel
    by_cases hi : i = n
    · have q1 : (n : Int) ≤ (i : Int) := by omega
      have HM : Hid (PI w wr b M .nilFunc 100 ∧ M.W.Nodup ∧ M.E = []) := ⟨⟨HI.out.2.1.q.more (by omega) (by omega), HI.out.2.1.bel, HI.out.2.1.old⟩, HI.out.2.2⟩
      clear hi HI
      obtain ⟨V0, hV0⟩ : ∃ V0, wr = V0 := ⟨_, rfl⟩
      subst hV0
      have HWT := waiting_is HM.out.1.q
      go_wp2_with fail
      refine HWT.mono ?_
      rintro e V1 ⟨wv, rfl, ho, hb1⟩
      obtain ⟨aw, cw, rfl, hnc, hcm, hnum, hge⟩ := nums_own ho
      obtain ⟨m, hm⟩ : ∃ m, M.W.length = m := ⟨_, rfl⟩
      rw [hm] at hnum hge hnc ⊢
      have qm : (m : Int) ≤ 64 := by have := HM.out.1.q.nW; omega
      have hbl1 : ∀ k ∈ M.bl b, k < wr.heap.size := HM.out.1.q.lt
      have HV1 : Hid (PI w V1 b M .nilFunc 100 ∧ M.W.Nodup ∧ M.E = [] ∧ M.W.length = m ∧ Nums V1 aw m M.W ∧ (0 < m → ∃ g, aw = some ⟨g, 0, none⟩ ∧ g ∉ M.bl b)) := ⟨HM.out.1.below hb1, HM.out.2.1, HM.out.2.2, hm, hnum, fun hp => by
        obtain ⟨g, h1, h2⟩ := hge hp
        exact ⟨g, h1, fun e => by have := hbl1 g e; omega⟩⟩
      clear HWT ho hb1 hnc hcm hnum hge hm hbl1 HM
      by_cases hex : m = 0 ∨ 300 < n2
      · have HEN := ended_is HV1.out.1.q
        rcases Nat.eq_zero_or_pos m with h0 | h0
        · subst h0
          clear hex
          go_wp2_with fail
          refine HEN.mono ?_
          rintro e V3 ⟨v', rfl, ho, hb3⟩
          rw [HV1.out.2.2.1] at ho
          obtain ⟨ae, ce, rfl, -⟩ := own_base0 ho
          have HLV := lives_is V3
          have HB3 : Hid (Below w.heap.size w V3) := below_tr HV1.out.1.bel hb3
          clear HEN ho hb3
          go_wp2_with fail
          refine HLV.mono ?_
          rintro e V4 ⟨rfl, hb4⟩
          have HF : Hid (Below w.heap.size w V4) := below_tr HB3.out hb4
          clear HLV hb4
          go_wp2_with fail
          go_ret
          exact ⟨rfl, HF.out⟩
        · have q5 : (300 : Int) < (n2 : Int) := by omega
          have q4 : ¬ ((m : Int) = 0) := by omega
          have q4b : ((m : Int) == 0) = false := by simpa using (show ¬ m = 0 by omega)
          clear hex
          go_wp2_with fail
          refine HEN.mono ?_
          rintro e V3 ⟨v', rfl, ho, hb3⟩
          rw [HV1.out.2.2.1] at ho
          obtain ⟨ae, ce, rfl, -⟩ := own_base0 ho
          have HLV := lives_is V3
          have HB3 : Hid (Below w.heap.size w V3) := below_tr HV1.out.1.bel hb3
          clear HEN ho hb3
          go_wp2_with fail
          refine HLV.mono ?_
          rintro e V4 ⟨rfl, hb4⟩
          have HF : Hid (Below w.heap.size w V4) := below_tr HB3.out hb4
          clear HLV hb4
          go_wp2_with fail
          go_ret
          exact ⟨rfl, HF.out⟩
      · have q4 : ¬ ((m : Int) = 0) := by omega
        have q4b : ((m : Int) == 0) = false := by simpa using (show ¬ m = 0 by omega)
        have q5 : ¬ ((300 : Int) < (n2 : Int)) := by omega
        have q6 : 0 < m := by omega
        obtain ⟨gw, haw, hgw⟩ := HV1.out.2.2.2.2.2 q6
        subst haw
        obtain ⟨k, hk, hkm⟩ := rem_of at_ q6
        have HKM : Hid (k < m) := hkm
        have HRI : Hid (RI V1 b M gw m M.W) := ⟨HV1.out.2.2.2.2.1, by obtain ⟨_, _, e, h, _⟩ := HV1.out.2.2.2.2.1.2 q6; cases e; exact h, hgw⟩
        obtain ⟨y, hy⟩ : ∃ y, M.W[k]? = some y := ⟨_, List.getElem?_eq_getElem (by rw [HV1.out.2.2.2.1]; exact hkm)⟩
        have cy : V1.cell? ⟨gw, k, none⟩ = some (iv y) := HRI.out.cell hy
        have HPL := place_is HV1.out.1.q y
        rw [plc_nodup HV1.out.2.1 hy] at HPL
        have HY : Hid (M.W[k]? = some y) := hy
        have q7 : (k : Int) < (m : Int) := by omega
        have q8 : k < m := hkm
        have hwm : IntKind.u64.wrap (m : Int) = (m : Int) := by rw [IntKind.wrap_u64]; omega
        have hwk : IntKind.i64.wrap (k : Int) = (k : Int) := by rw [IntKind.wrap_i64]; omega
        clear hex hgw hkm hy
        have qk : (k : Int) ≤ 64 := by omega
        go_wp2_with fail
        refine HPL.mono ?_
        rintro e w2 ⟨rfl, rfl⟩
        have hd300 : decide ((300 : Int) < (n2 : Int)) = false := decide_eq_false (by omega)
        have HS0 : Hid (PS M M.W 0) := PS.start rfl HV1.out.2.2.1
        clear HPL cy
        go_wp2
        try simp only [hd300]
        clear hd300 hk hwm hwk q4 q4b q5
        go_loopw [65] (fun u W => ∃ (j : Nat) (M' : Qu), u = iv j ∧ Hid (j ≤ k + 1 ∧ PI w W b M' .nilFunc (100 + j) ∧ RI W b M' gw m M.W ∧ PS M' M.W j)) (fun u _ => k + 1 - (intOf u).toNat)
        case atStart => exact ⟨0, M, rfl, Nat.zero_le _, HV1.out.1, HRI.out, HS0.out⟩
        case round =>
          obtain ⟨j, M', rfl, HJ⟩ := hrel
          by_cases hj : j = k + 1
          · have q9 : (k : Int) + 1 ≤ (j : Int) := by omega
            have HEN := ended_is HJ.out.2.1.q
            go_wp2_with fail
            refine HEN.mono ?_
            rintro e V3 ⟨v', rfl, ho, hb3⟩
            have hel : M'.E.length = k + 1 := by rw [HJ.out.2.2.2.2.1, hj]
            rcases ho.2 with ⟨_, h0⟩ | ⟨ge, ce, cur, rfl, hB, hbk, hnc, hcm, hcs, ht⟩
            · omega
            obtain ⟨z, hz⟩ : ∃ z, M'.E[k]? = some z := ⟨_, List.getElem?_eq_getElem (by omega)⟩
            have hzy : z.1 = y := by
              have h1 := HJ.out.2.2.2.2.2 k z hz
              rw [HY.out] at h1
              injection h1 with h1
              exact h1.symm
            have k0 : V3.cell? ⟨ge, k * 3, none⟩ = some (iv y) := by
              have h1 := qdC_at hz
              rw [cell_of_row V3 ge (k * 3) _ 38 (0, 0) hbk]
              rw [← ht, List.getElem?_take] at h1
              split at h1
              · rw [← hzy]; simpa using h1
              · cases h1
            obtain ⟨n1, hn1⟩ : ∃ n1, M'.E.length = n1 := ⟨_, rfl⟩
            rw [hn1] at hel ⊢
            have HRI3 := HJ.out.2.2.1.below hb3
            have k4 : V3.cell? ⟨gw, k, none⟩ = some (iv y) := HRI3.cell HY.out
            have HLL : Hid (gw < V3.heap.size ∧ ge < V3.heap.size) := ⟨HRI3.lt, lt_of_block hbk⟩
            have HQQ : Hid ((k : Int) ≤ 1000000 ∧ (k : Int) < (n1 : Int) ∧ (n1 : Int) = (k : Int) + 1 ∧ k < n1) := ⟨by omega, by omega, by omega, by omega⟩
            have HB3 : Hid (Below w.heap.size w V3) := below_tr HJ.out.2.1.bel hb3
            clear HEN ho hb3 hB hbk hnc hcm hcs ht hz hzy hn1 hel HRI3 hj
            go_wp2_with fail
            refine prog26 HLL k0 k4 q7 q8 HQQ ?_
            intro V4 hV4
            have HF : Hid (Below w.heap.size w V4) := below_tr HB3.out hV4
            clear hV4 k0 k4 HLL
            go_wp2_with fail
            go_ret
            exact ⟨rfl, HF.out⟩
          · have HJM : Hid (j < k + 1 ∧ j < m) := by have h1 := HJ.out.1; have h2 := HKM.out; exact ⟨by omega, by omega⟩
            have q9 : (j : Int) < (k : Int) + 1 := by have := HJM.out.1; omega
            have q10 : (j : Int) < (m : Int) := by have := HJM.out.2; omega
            obtain ⟨x, hx⟩ : ∃ x, M.W[j]? = some x := ⟨_, List.getElem?_eq_getElem (by rw [HV1.out.2.2.2.1]; exact HJM.out.2)⟩
            have HX : Hid (M.W[j]? = some x) := hx
            clear hj hx
            by_cases h2 : n2 = 0
            · have q11 : ¬ ((0 : Int) < (n2 : Int)) := by omega
              clear h2
              have hA : Below wr.heap.size wr (wr.alloc (.cells #[iv 0] 3)) := below_al _ _
              have hb13 : Blk (wr.alloc (.cells #[iv 0] 3)) wr.heap.size 3 [iv 0] := Blk.new wr _ _
              have hn13 : wr.heap.size ∉ M'.bl b := fun e => by have := HJ.out.2.1.q.lt _ e; omega
              have hn13b : wr.heap.size ≠ b := fun e => hn13 (by rw [e]; simp [Qu.bl])
              have hp := HJ.out.2.1.below hA
              have HP2 : Hid (PI w (wr.alloc (.cells #[iv 0] 3)) b M' .nilFunc (100 + (j + 1)) ∧ RI (wr.alloc (.cells #[iv 0] 3)) b M' gw m M.W ∧ (Blk (wr.alloc (.cells #[iv 0] 3)) wr.heap.size 3 [iv 0] ∧ wr.heap.size ∉ M'.bl b ∧ wr.heap.size ≠ b) ∧ PS M' M.W j) := ⟨⟨hp.q.more (by omega) (by have := HJM.out.2; omega), hp.bel, hp.old⟩, HJ.out.2.2.1.below hA, ⟨hb13, hn13, hn13b⟩, HJ.out.2.2.2⟩
              clear hA hb13 hn13 hn13b hp
              go_wp2_with fail
              obtain ⟨A1, hA1⟩ : ∃ A1, wr.alloc (.cells #[iv 0] 3) = A1 := ⟨_, rfl⟩
              rw [hA1] at HP2 ⊢
              obtain ⟨g13, hg13⟩ : ∃ g, wr.heap.size = g := ⟨_, rfl⟩
              rw [hg13] at HP2 ⊢
              have HST := step_const (F := 28) (x := x) (r := 0) (cs := #[.pointer (some ⟨g13, 0, none⟩)]) HP2.out.1.q (HP2.out.2.2.2.first HX.out) (enters_of Try.func28 (by kernel_rfl) rfl) (fun A hk => try28 x 0 g13 A ((hk.blk HP2.out.2.2.1.1 HP2.out.2.2.1.2.2).cell rfl))
              refine HST.mono ?_
              rintro e W3 ⟨rfl, v3, u3, hq3, ha3⟩
              have h13 : Blk W3 g13 3 [iv 0] := ha3.2.blk HP2.out.2.2.1.1 HP2.out.2.2.1.2.1
              obtain ⟨M3, hM3⟩ : ∃ M3 : Qu, ⟨v3, u3, M'.W.eraseIdx 0, M'.E ++ [(x, hw 0, 0)]⟩ = M3 := ⟨_, rfl⟩
              have HP3 : Hid (PI w W3 b M3 .nilFunc (100 + (j + 1)) ∧ RI W3 b M3 gw m M.W ∧ Blk W3 g13 3 [iv 0] ∧ PS M3 M.W (j + 1)) := by
                rw [← hM3]
                exact ⟨HP2.out.1.call hq3 ha3, HP2.out.2.1.call ha3, h13, HP2.out.2.2.2.step HX.out v3 u3 _ _⟩
              have hal : Below W3.heap.size W3 (W3.alloc (.cells #[iv 0, iv 0, iv 0] 38)) := below_al _ _
              obtain ⟨g14, hg14⟩ : ∃ g14, W3.heap.size = g14 := ⟨_, rfl⟩
              clear HST hq3 ha3 h13 hM3 HP2
              go_wp2_with (with_reducible change wpList _ _ _ ({ dst := none, op := Op.store 38 _ _, type := _, pos := _, after := _, guard := _ } :: _) _ _; refine Hid.out ?_)
              show wpList _ _ _ _ _ _
              refine wpList_store_blk rfl 38 (.tmp 14) _ rfl g14 0 38 q0 (qd (x, hw 0, 0)) rfl rfl (by rw [← hg14]; exact Blk.new W3 _ _) (by simp [q0, qd]) size38 (qd_one _) ?_
              intro V5 hb5 hg5
              have hV5 : Below W3.heap.size W3 V5 := hal.grown hg5.out hal.size (fun j hj => by cases hj; omega)
              have HP5 : Hid (PI w V5 b M3 .nilFunc (100 + (j + 1)) ∧ RI V5 b M3 gw m M.W ∧ PS M3 M.W (j + 1)) := ⟨HP3.out.1.below hV5, HP3.out.2.1.below hV5, HP3.out.2.2.2⟩
              have h13 : Blk V5 g13 3 [iv 0] := HP3.out.2.2.1.below hV5 HP3.out.2.2.1.lt
              have h14 : Blk V5 g14 38 (qd (x, hw 0, 0)) := hb5.out
              have HLL : Hid (gw < V5.heap.size ∧ g14 < V5.heap.size ∧ g13 < V5.heap.size) := ⟨HP5.out.2.1.lt, h14.lt, h13.lt⟩
              have k0 : V5.cell? ⟨g14, 0, none⟩ = some (iv x) := h14.cell rfl
              have k1 : V5.cell? ⟨g14, 1, none⟩ = some (iv (hw 0)) := h14.cell rfl
              have k2 : V5.cell? ⟨g14, 2, none⟩ = some (iv 0) := h14.cell rfl
              have k3 : V5.cell? ⟨g13, 0, none⟩ = some (iv 0) := h13.cell rfl
              have k4 : V5.cell? ⟨gw, j, none⟩ = some (iv x) := HP5.out.2.1.cell HX.out
              clear hb5 hg5 hal hV5 hg14 h13 h14 HP3
              go_wp2_with fail
              refine prog22t HLL k0 k1 k2 k3 k4 q10 HJM.out.2 rfl rfl ?_
              intro V6 hV6
              have HV6 : Hid (PI w V6 b M3 .nilFunc (100 + (j + 1)) ∧ RI V6 b M3 gw m M.W ∧ PS M3 M.W (j + 1)) := ⟨HP5.out.1.below hV6, HP5.out.2.1.below hV6, HP5.out.2.2⟩
              clear hV6 k0 k1 k2 k3 k4 HLL HP5
              go_wp2
              go_roundw
              case rel => exact ⟨j + 1, M3, by simp, HJM.out.1, HV6.out⟩
              case measure =>
                have := HJM.out.1
                simp only [intOf]
                omega
            · have q11 : (0 : Int) < (n2 : Int) := by omega
              obtain ⟨P, hP, hP2⟩ := tmod_of j (show 0 < n2 by omega)
              have q12 : (P : Int) < (n2 : Int) := by omega
              have q13 : ¬ ((n2 : Int) = 0) := by omega
              obtain ⟨ab, off, ha, hbl, hc⟩ := HL2.out.2.2.2.2 (by omega)
              subst ha
              obtain ⟨z, hz⟩ : ∃ z, ls[P]? = some z := ⟨_, List.getElem?_eq_getElem (by rw [HL2.out.1]; exact hP2)⟩
              have cz : wr.cell? ⟨ab, off + P, none⟩ = some (iv z) := (HJ.out.2.1.bel.cell (p := ⟨ab, off + P, none⟩) hbl).trans (hc P z hz)
              have hab : ab < wr.heap.size := Nat.lt_of_lt_of_le hbl HJ.out.2.1.bel.size
              clear h2 hc hz hbl
              have hA : Below wr.heap.size wr (wr.alloc (.cells #[iv z] 3)) := below_al _ _
              have hb13 : Blk (wr.alloc (.cells #[iv z] 3)) wr.heap.size 3 [iv z] := Blk.new wr _ _
              have hn13 : wr.heap.size ∉ M'.bl b := fun e => by have := HJ.out.2.1.q.lt _ e; omega
              have hn13b : wr.heap.size ≠ b := fun e => hn13 (by rw [e]; simp [Qu.bl])
              have hp := HJ.out.2.1.below hA
              have HPUT := put_is hp.q (by have := HJM.out.2; omega) z
              have HP1 : Hid (PI w (wr.alloc (.cells #[iv z] 3)) b M' .nilFunc (100 + j) ∧ RI (wr.alloc (.cells #[iv z] 3)) b M' gw m M.W ∧ (Blk (wr.alloc (.cells #[iv z] 3)) wr.heap.size 3 [iv z] ∧ wr.heap.size ∉ M'.bl b ∧ wr.heap.size ≠ b) ∧ PS M' M.W j) := ⟨hp, HJ.out.2.2.1.below hA, ⟨hb13, hn13, hn13b⟩, HJ.out.2.2.2⟩
              clear hA hb13 hn13 hn13b hp
              go_wp2_with fail
              refine HPUT.mono ?_
              rintro e W2 ⟨rfl, v2, hq2, ha2⟩
              obtain ⟨A1, hA1⟩ : ∃ A1, wr.alloc (.cells #[iv z] 3) = A1 := ⟨_, rfl⟩
              rw [hA1] at HP1 ha2
              obtain ⟨g13, hg13⟩ : ∃ g, wr.heap.size = g := ⟨_, rfl⟩
              rw [hg13] at HP1 ⊢
              obtain ⟨M2, hM2⟩ : ∃ M2 : Qu, ⟨v2, M'.ev, putW M'.W z, M'.E⟩ = M2 := ⟨_, rfl⟩
              have HP2 : Hid (PI w W2 b M2 .nilFunc (100 + (j + 1)) ∧ RI W2 b M2 gw m M.W ∧ (Blk W2 g13 3 [iv z] ∧ g13 ∉ M2.bl b ∧ g13 ≠ b) ∧ PS M2 M.W j) := by
                rw [← hM2]
                refine ⟨HP1.out.1.call hq2 ha2, HP1.out.2.1.call ha2, ⟨ha2.2.blk HP1.out.2.2.1.1 HP1.out.2.2.1.2.1, fun e => ?_, HP1.out.2.2.1.2.2⟩, HP1.out.2.2.2.put v2 z⟩
                rcases ha2.1 g13 e with h | h
                · exact HP1.out.2.2.1.2.1 h
                · have := HP1.out.2.2.1.1.lt; omega
              clear HPUT hq2 ha2 hM2 HP1 cz hA1 hg13
              by_cases hz0 : z = 0
              · have b1 : (hw z == 1) = true := by rw [hz0]; rfl
                have b2 : (z == 0) = true := by simp [hz0]
                clear hz0
                have HST := step_const (F := 28) (x := x) (r := z) (cs := #[.pointer (some ⟨g13, 0, none⟩)]) HP2.out.1.q (HP2.out.2.2.2.first HX.out) (enters_of Try.func28 (by kernel_rfl) rfl) (fun A hk => try28 x z g13 A ((hk.blk HP2.out.2.2.1.1 HP2.out.2.2.1.2.2).cell rfl))
                go_wp2_with fail
                refine HST.mono ?_
                rintro e W3 ⟨rfl, v3, u3, hq3, ha3⟩
                have h13 : Blk W3 g13 3 [iv z] := ha3.2.blk HP2.out.2.2.1.1 HP2.out.2.2.1.2.1
                obtain ⟨M3, hM3⟩ : ∃ M3 : Qu, ⟨v3, u3, M2.W.eraseIdx 0, M2.E ++ [(x, hw z, z)]⟩ = M3 := ⟨_, rfl⟩
                have HP3 : Hid (PI w W3 b M3 .nilFunc (100 + (j + 1)) ∧ RI W3 b M3 gw m M.W ∧ Blk W3 g13 3 [iv z] ∧ PS M3 M.W (j + 1)) := by
                  rw [← hM3]
                  exact ⟨HP2.out.1.call hq3 ha3, HP2.out.2.1.call ha3, h13, HP2.out.2.2.2.step HX.out v3 u3 _ _⟩
                have hal : Below W3.heap.size W3 (W3.alloc (.cells #[iv 0, iv 0, iv 0] 38)) := below_al _ _
                obtain ⟨g14, hg14⟩ : ∃ g14, W3.heap.size = g14 := ⟨_, rfl⟩
                clear HST hq3 ha3 h13 hM3 HP2
                go_wp2_with (with_reducible change wpList _ _ _ ({ dst := none, op := Op.store 38 _ _, type := _, pos := _, after := _, guard := _ } :: _) _ _; refine Hid.out ?_)
                show wpList _ _ _ _ _ _
                refine wpList_store_blk rfl 38 (.tmp 14) _ rfl g14 0 38 q0 (qd (x, hw z, z)) rfl rfl (by rw [← hg14]; exact Blk.new W3 _ _) (by simp [q0, qd]) size38 (qd_one _) ?_
                intro V5 hb5 hg5
                have hV5 : Below W3.heap.size W3 V5 := hal.grown hg5.out hal.size (fun j hj => by cases hj; omega)
                have HP5 : Hid (PI w V5 b M3 .nilFunc (100 + (j + 1)) ∧ RI V5 b M3 gw m M.W ∧ PS M3 M.W (j + 1)) := ⟨HP3.out.1.below hV5, HP3.out.2.1.below hV5, HP3.out.2.2.2⟩
                have h13 : Blk V5 g13 3 [iv z] := HP3.out.2.2.1.below hV5 HP3.out.2.2.1.lt
                have h14 : Blk V5 g14 38 (qd (x, hw z, z)) := hb5.out
                have HLL : Hid (gw < V5.heap.size ∧ g14 < V5.heap.size ∧ g13 < V5.heap.size) := ⟨HP5.out.2.1.lt, h14.lt, h13.lt⟩
                have k0 : V5.cell? ⟨g14, 0, none⟩ = some (iv x) := h14.cell rfl
                have k1 : V5.cell? ⟨g14, 1, none⟩ = some (iv (hw z)) := h14.cell rfl
                have k2 : V5.cell? ⟨g14, 2, none⟩ = some (iv z) := h14.cell rfl
                have k3 : V5.cell? ⟨g13, 0, none⟩ = some (iv z) := h13.cell rfl
                have k4 : V5.cell? ⟨gw, j, none⟩ = some (iv x) := HP5.out.2.1.cell HX.out
                clear hb5 hg5 hal hV5 hg14 h13 h14 HP3
                go_wp2_with fail
                refine prog22t HLL k0 k1 k2 k3 k4 q10 HJM.out.2 b1 b2 ?_
                intro V6 hV6
                have HV6 : Hid (PI w V6 b M3 .nilFunc (100 + (j + 1)) ∧ RI V6 b M3 gw m M.W ∧ PS M3 M.W (j + 1)) := ⟨HP5.out.1.below hV6, HP5.out.2.1.below hV6, HP5.out.2.2⟩
                clear hV6 k0 k1 k2 k3 k4 HLL HP5
                go_wp2
                go_roundw
                case rel => exact ⟨j + 1, M3, by simp, HJM.out.1, HV6.out⟩
                case measure =>
                  have := HJM.out.1
                  simp only [intOf]
                  omega
              · have b1 : (hw z == 1) = false := by unfold hw; rw [if_neg hz0]; rfl
                have b2 : (z == 0) = false := by simpa using hz0
                clear hz0
                have HST := step_const (F := 28) (x := x) (r := z) (cs := #[.pointer (some ⟨g13, 0, none⟩)]) HP2.out.1.q (HP2.out.2.2.2.first HX.out) (enters_of Try.func28 (by kernel_rfl) rfl) (fun A hk => try28 x z g13 A ((hk.blk HP2.out.2.2.1.1 HP2.out.2.2.1.2.2).cell rfl))
                go_wp2_with fail
                refine HST.mono ?_
                rintro e W3 ⟨rfl, v3, u3, hq3, ha3⟩
                have h13 : Blk W3 g13 3 [iv z] := ha3.2.blk HP2.out.2.2.1.1 HP2.out.2.2.1.2.1
                obtain ⟨M3, hM3⟩ : ∃ M3 : Qu, ⟨v3, u3, M2.W.eraseIdx 0, M2.E ++ [(x, hw z, z)]⟩ = M3 := ⟨_, rfl⟩
                have HP3 : Hid (PI w W3 b M3 .nilFunc (100 + (j + 1)) ∧ RI W3 b M3 gw m M.W ∧ Blk W3 g13 3 [iv z] ∧ PS M3 M.W (j + 1)) := by
                  rw [← hM3]
                  exact ⟨HP2.out.1.call hq3 ha3, HP2.out.2.1.call ha3, h13, HP2.out.2.2.2.step HX.out v3 u3 _ _⟩
                have hal : Below W3.heap.size W3 (W3.alloc (.cells #[iv 0, iv 0, iv 0] 38)) := below_al _ _
                obtain ⟨g14, hg14⟩ : ∃ g14, W3.heap.size = g14 := ⟨_, rfl⟩
                clear HST hq3 ha3 h13 hM3 HP2
                go_wp2_with (with_reducible change wpList _ _ _ ({ dst := none, op := Op.store 38 _ _, type := _, pos := _, after := _, guard := _ } :: _) _ _; refine Hid.out ?_)
                show wpList _ _ _ _ _ _
                refine wpList_store_blk rfl 38 (.tmp 14) _ rfl g14 0 38 q0 (qd (x, hw z, z)) rfl rfl (by rw [← hg14]; exact Blk.new W3 _ _) (by simp [q0, qd]) size38 (qd_one _) ?_
                intro V5 hb5 hg5
                have hV5 : Below W3.heap.size W3 V5 := hal.grown hg5.out hal.size (fun j hj => by cases hj; omega)
                have HP5 : Hid (PI w V5 b M3 .nilFunc (100 + (j + 1)) ∧ RI V5 b M3 gw m M.W ∧ PS M3 M.W (j + 1)) := ⟨HP3.out.1.below hV5, HP3.out.2.1.below hV5, HP3.out.2.2.2⟩
                have h13 : Blk V5 g13 3 [iv z] := HP3.out.2.2.1.below hV5 HP3.out.2.2.1.lt
                have h14 : Blk V5 g14 38 (qd (x, hw z, z)) := hb5.out
                have HLL : Hid (gw < V5.heap.size ∧ g14 < V5.heap.size ∧ g13 < V5.heap.size) := ⟨HP5.out.2.1.lt, h14.lt, h13.lt⟩
                have k0 : V5.cell? ⟨g14, 0, none⟩ = some (iv x) := h14.cell rfl
                have k1 : V5.cell? ⟨g14, 1, none⟩ = some (iv (hw z)) := h14.cell rfl
                have k2 : V5.cell? ⟨g14, 2, none⟩ = some (iv z) := h14.cell rfl
                have k3 : V5.cell? ⟨g13, 0, none⟩ = some (iv z) := h13.cell rfl
                have k4 : V5.cell? ⟨gw, j, none⟩ = some (iv x) := HP5.out.2.1.cell HX.out
                clear hb5 hg5 hal hV5 hg14 h13 h14 HP3
                go_wp2_with fail
                refine prog22f HLL k0 k1 k2 k3 k4 q10 HJM.out.2 b1 b2 ?_
                intro V6 hV6
                have HV6 : Hid (PI w V6 b M3 .nilFunc (100 + (j + 1)) ∧ RI V6 b M3 gw m M.W ∧ PS M3 M.W (j + 1)) := ⟨HP5.out.1.below hV6, HP5.out.2.1.below hV6, HP5.out.2.2⟩
                clear hV6 k0 k1 k2 k3 k4 HLL HP5
                go_wp2
                go_roundw
                case rel => exact ⟨j + 1, M3, by simp, HJM.out.1, HV6.out⟩
                case measure =>
                  have := HJM.out.1
                  simp only [intOf]
                  omega
    · have HQ : Hid (i < n) := by have := HI.out.1; show _ < _; omega
      have q1 : (i : Int) < (n : Int) := by have := HQ.out; omega
      have q2 : i < n := HQ.out
      obtain ⟨ab, off, ha, hbl, hc⟩ := HL.out.2.2.2.2 (by omega)
      subst ha
      obtain ⟨x, hx⟩ : ∃ x, l[i]? = some x := ⟨_, List.getElem?_eq_getElem (by rw [HL.out.1]; exact q2)⟩
      have cx : wr.cell? ⟨ab, off + i, none⟩ = some (iv x) := (HI.out.2.1.bel.cell (p := ⟨ab, off + i, none⟩) hbl).trans (hc i x hx)
      clear hi hc hx hbl
      by_cases h100 : i < 100
      · have q3 : (i : Int) < 100 := by omega
        have hmin : min i 100 = i := by omega
        have hq := HI.out.2.1
        rw [hmin] at hq
        have HPUT := put_is hq.q (by omega) x
        have HQI : Hid (PI w wr b M .nilFunc i ∧ min (i + 1) 100 = i + 1) := ⟨hq, by omega⟩
        clear h100 hmin hq
        go_wp2_with fail
        refine HPUT.mono ?_
        rintro e V ⟨rfl, v, hq1, ha1⟩
        have HV : Hid (PI w V b ⟨v, M.ev, putW M.W x, M.E⟩ .nilFunc (min (i + 1) 100) ∧ (putW M.W x).Nodup) := ⟨by rw [HQI.out.2]; exact HQI.out.1.call hq1 ha1, putW_nodup HI.out.2.2.1 x⟩
        clear HPUT hq1 ha1 cx
        go_wp2
        go_roundw
        case rel => exact ⟨i + 1, _, by simp, HQ.out, HV.out.1, HV.out.2, HI.out.2.2.2⟩
        case measure =>
          have := HQ.out
          simp only [intOf]
          omega
      · have q3 : ¬ ((i : Int) < 100) := by omega
        have HV : Hid (PI w wr b M .nilFunc (min (i + 1) 100)) := by
          have h1 := HI.out.2.1
          rw [show min i 100 = min (i + 1) 100 by omega] at h1
          exact h1
        clear h100
        go_wp2
        go_roundw
        case rel => exact ⟨i + 1, M, by simp, HQ.out, HV.out, HI.out.2.2⟩
        case measure =>
          have := HQ.out
          simp only [intOf]
          omega
#print axioms progress_law
end Go.Proofs.Ytipipckbcelphaa.Oct
