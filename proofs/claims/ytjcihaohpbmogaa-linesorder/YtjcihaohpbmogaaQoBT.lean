/-
  Layer 11 (lines): the order: the law.
-/
import Derived.Test.YtjcihaohpbmogaaQoBS
/- Layer 11 (lines): the order: the law. -/
namespace Go.Proofs.Ytjcihaohpbmogaa.Oct
open Go.RowKit
set_option maxRecDepth 100000
set_option linter.unusedSimpArgs false
set_option linter.unusedVariables false
set_option linter.unusedSectionVars false

theorem ahd_call {w : World} {p k : Nat} {G : Gm} (h : GAt w p G) (hI : Iv k G.ps) (a b : Vx) (ha : Vk a) (hb : Vk b) (XA XB : List Value) (hXA : a.cells = XA) (hXB : b.cells = XB) (B : Bool) (hB : B = true ↔ ahdP G.ps a b) :
    Calls Try.prog 20 #[.pointer (some ⟨p, 0, none⟩), .agg XA.toArray, .agg XB.toArray] w fun e w' => e = .returned (.bool B) ∧ Below w.heap.size w w' := ahead_is h (tied_ps hI.tiedP) a b ha hb XA XB hXA hXB B (by rw [ahd_ps]; exact hB)
theorem has_call {w : World} {p : Nat} {G : Gm} (h : GAt w p G) (v : Vx) (hv : Vk v) (X : List Value) (hX : v.cells = X) (hk : v ∈ keysP G.ps) : Calls Try.prog 19 #[.pointer (some ⟨p, 0, none⟩), .agg X.toArray] w fun e w' => e = .returned (.bool true) ∧ Below w.heap.size w w' := has_is h v hv X hX true (by rw [keys_ps]; simp [hk])
theorem iff_t {P : Prop} (h : P) : true = true ↔ P := ⟨fun _ => h, fun _ => rfl⟩
theorem iff_f {P : Prop} (h : ¬ P) : false = true ↔ P := ⟨fun e => (by cases e), fun e => absurd e h⟩
theorem sx_range {w : World} {g o : Nat} {x : Sx} (h : w.rangeAt g o x.cells) : w.rangeAt g o x.v.cells := by
  unfold Sx.cells at h
  exact rangeAt_left h
set_option maxHeartbeats 8000000 in
theorem order_law (w : World) (a0 : Option Addr) (n0 c0 : Nat) (acts : List AV) (hr : ActsR w a0 n0 acts) (hn0 : n0 ≤ 140737488355328) : Calls Try.prog 4 #[.slice a0 n0 c0] w fun e w' => e = .returned (.bool true) ∧ Below w.heap.size w w' := by
  have HA : Hid (ActsR w a0 n0 acts ∧ n0 ≤ 140737488355328) := ⟨hr, hn0⟩
  obtain ⟨CT, hCT⟩ : ∃ C, vTop.cells = C := ⟨_, rfl⟩
  obtain ⟨CB, hCB⟩ : ∃ C, vBot.cells = C := ⟨_, rfl⟩
  have HCT : Hid (vTop.cells = CT) := hCT
  have HCB : Hid (vBot.cells = CB) := hCB
  have hb1 := built34
  have hb2 := built34b
  rw [hCT] at hb1
  rw [hCB] at hb2
  have HBT := hid_of hb1
  have HBB := hid_of hb2
  clear hr hn0 hCT hCB hb1 hb2
  go_enter Try.func4, Try.ntmps4
  obtain ⟨B1, hB1⟩ : ∃ B, decide (cnts acts ≤ 120) = B := ⟨_, rfl⟩
  have HB1 := hid_of hB1
  clear hB1
  go_wp2_with fail
  refine (few_is w a0 n0 c0 acts HA.out.1 HA.out.2 B1 HB1.out).mono ?_
  rintro e W4 ⟨rfl, hb⟩
  have H4 : Hid (Below w.heap.size w W4) := hb
  clear hb
  cases B1 with
  | false =>
    go_wp2_with fail
    refine (lives_is W4).mono ?_
    rintro e W5 ⟨rfl, hb⟩
    have H5 : Hid (Below w.heap.size w W5) := below_tr H4.out hb
    clear hb
    go_wp2
    go_ret
    exact ⟨rfl, H5.out⟩
  | true =>
  have hc1 : cnts acts ≤ 120 := of_decide_eq_true HB1.out
  have HN : Hid (n0 ≤ 1000 ∧ (∀ x ∈ acts, x.inn ≤ 1000 ∧ x.tn ≤ 1000)) := by
    refine ⟨?_, fun x hx => ?_⟩
    · have := cnts_len acts
      have := HA.out.1.1
      omega
    · have := cnts_mem hx
      unfold cnt at this
      omega
  clear hc1 HB1
  go_wp2_with fail
  refine (built_is W4 a0 n0 c0 acts (HA.out.1.below H4.out) HN.out.1 HN.out.2).mono ?_
  rintro e W5 ⟨p, G, rfl, hG, hbl, hI, hb⟩
  have H5 : Hid (At7 w p 0 G.ps W5 G) := ⟨hG, fun b h => Nat.le_trans H4.out.size (hbl b h), rfl, below_tr H4.out hb⟩
  have HI0 := hid_of hI
  clear hG hbl hI hb H4
  go_wp2_with fail
  refine (shown_ex H5.out.1 HI0.out).mono ?_
  rintro e W6 ⟨sa, n, c, vs, rfl, HX, HB⟩
  obtain ⟨S, hS⟩ : ∃ S, shownP G.ps vs = S := ⟨_, rfl⟩
  have HP : Hid (Iv (n0 + 1) G.ps ∧ ShP G.ps S ∧ n = G.ps.length ∧ S.length = n ∧ n ≤ 512) := by
    have h1 := HI0.out.shown HX.out.1
    rw [hS] at h1
    have h2 := HX.out.2.1.1
    rw [hS] at h2
    have h3 := H5.out.1.few
    rw [ls_ps] at h3
    refine ⟨HI0.out, h1, ?_, h2, ?_⟩
    · rw [← h2, h1.len]
    · rw [← h2, h1.len]; exact h3
  have H6 : Hid (At7 w p 0 G.ps W6 G ∧ SsR W6 sa n S) := ⟨H5.out.below HB.out, by rw [← hS]; exact HX.out.2.1⟩
  clear HX HB hS H5
  go_wp2_with fail
  refine (len_is H6.out.1.1).mono ?_
  rintro e W7 ⟨rfl, rfl⟩
  have hl : (G.ls.length : Int) = (n : Int) := by rw [ls_ps, HP.out.2.2.1]
  rw [hl]
  clear hl
  have qn : (n : Int) ≤ 512 := by have := HP.out.2.2.2.2; omega
  go_wp2
  go_loopw [22] (fun u wr => ∃ i : Nat, u = iv (i : Int) ∧ Hid (i ≤ n ∧ At7 w p 0 G.ps wr G ∧ SsR wr sa n S)) (fun u _ => n - (intOf u).toNat)
  case atStart => exact ⟨0, rfl, Nat.zero_le _, H6.out.1, H6.out.2⟩
  case round =>
    obtain ⟨V, hV⟩ : ∃ V, V = wr := ⟨_, rfl⟩
    subst hV
    obtain ⟨i, rfl, HI⟩ := hrel
    clear H6
    by_cases hi : i < n
    · obtain ⟨x, hx⟩ : ∃ x, S[i]? = some x := ⟨_, List.getElem?_eq_getElem (by rw [HP.out.2.2.2.1]; exact hi)⟩
      have hxk := HI.out.2.2.2.1 x (List.mem_of_getElem? hx)
      obtain ⟨gb, off, rfl, hg, hel⟩ := HI.out.2.2.2.2 (by omega)
      obtain ⟨XC, hXC⟩ : ∃ C, x.v.cells = C := ⟨_, rfl⟩
      have HX : Hid (i < n ∧ S[i]? = some x ∧ Vk x.v ∧ x.v.cells = XC ∧ x.v ∈ keysP G.ps) := ⟨hi, hx, hxk, hXC, HP.out.2.1.mem x (List.mem_of_getElem? hx)⟩
      have HR : Hid (V.rangeAt gb (off + i * 35) XC ∧ (Try.prog.info? 34).map (·.size) = some XC.length) := ⟨by rw [← hXC]; exact sx_range (hel i x hx), by rw [← hXC]; exact info34 hxk.1⟩
      have HL : Hid (gb < V.heap.size ∧ True) := ⟨hg, trivial⟩
      have q1 : (i : Int) < (n : Int) := by omega
      have hh : GAt V p G := HI.out.2.1.1
      have HHAS : Hid (∀ V', Below V.heap.size V V' → Calls Try.prog 19 #[.pointer (some ⟨p, 0, none⟩), .agg XC.toArray] V' fun e w' => e = .returned (.bool true) ∧ Below V'.heap.size V' w') := fun V' hb => has_call (hh.below hb) x.v HX.out.2.2.1 XC HX.out.2.2.2.1 HX.out.2.2.2.2
      have HTOP : Hid (∀ V', Below V.heap.size V V' → Calls Try.prog 20 #[.pointer (some ⟨p, 0, none⟩), .agg CT.toArray, .agg XC.toArray] V' fun e w' => e = .returned (.bool true) ∧ Below V'.heap.size V' w') := fun V' hb => ahd_call (hh.below hb) HP.out.1 vTop x.v vTop_k HX.out.2.2.1 CT XC HCT.out HX.out.2.2.2.1 true (iff_t (ahd_top HP.out.1.top HX.out.2.2.2.2))
      have HBOT : Hid (∀ V', Below V.heap.size V V' → Calls Try.prog 20 #[.pointer (some ⟨p, 0, none⟩), .agg XC.toArray, .agg CB.toArray] V' fun e w' => e = .returned (.bool true) ∧ Below V'.heap.size V' w') := fun V' hb => ahd_call (hh.below hb) HP.out.1 x.v vBot HX.out.2.2.1 vBot_k XC CB HX.out.2.2.2.1 HCB.out true (iff_t (ahd_bot HP.out.1.bot HX.out.2.2.2.2))
      have HSELF : Hid (∀ V', Below V.heap.size V V' → Calls Try.prog 20 #[.pointer (some ⟨p, 0, none⟩), .agg XC.toArray, .agg XC.toArray] V' fun e w' => e = .returned (.bool false) ∧ Below V'.heap.size V' w') := fun V' hb => ahd_call (hh.below hb) HP.out.1 x.v x.v HX.out.2.2.1 HX.out.2.2.1 XC XC HX.out.2.2.2.1 HX.out.2.2.2.1 false (iff_f ahd_self)
      clear hi hx hxk hg hel hXC hh
      go_wp2_with fail
      refine or10 (i := i) HL HR q1 HX.out.1 HBT HBB HHAS HTOP HBOT HSELF ?_
      intro V1 hb1
      have H8 : Hid (i ≤ n ∧ At7 w p 0 G.ps V1 G ∧ SsR V1 (some ⟨gb, off, none⟩) n S) := ⟨HI.out.1, HI.out.2.1.below hb1, HI.out.2.2.below hb1⟩
      clear hb1 HI HHAS HTOP HBOT HSELF HL HR
      go_wp2
      go_loopw [70] (fun u wr => ∃ j : Nat, u = iv (j : Int) ∧ Hid (j ≤ i ∧ At7 w p 0 G.ps wr G ∧ SsR wr (some ⟨gb, off, none⟩) n S)) (fun u _ => i - (intOf u).toNat)
      case atStart => exact ⟨0, rfl, Nat.zero_le _, H8.out.2⟩
      case round =>
        obtain ⟨U, hU⟩ : ∃ U, U = wr := ⟨_, rfl⟩
        subst hU
        obtain ⟨j, rfl, HJ⟩ := hrel
        clear H8
        by_cases hj : j < i
        · obtain ⟨y, hy⟩ : ∃ y, S[j]? = some y := ⟨_, List.getElem?_eq_getElem (by rw [HP.out.2.2.2.1]; have := HX.out.1; omega)⟩
          have hyk := HJ.out.2.2.2.1 y (List.mem_of_getElem? hy)
          obtain ⟨gb', off', e', hg, hel⟩ := HJ.out.2.2.2.2 (by omega)
          cases e'
          obtain ⟨YC, hYC⟩ : ∃ C, y.v.cells = C := ⟨_, rfl⟩
          have hord := HP.out.2.1.ord i j x y hj HX.out.2.1 hy
          have HY : Hid (j < i ∧ Vk y.v ∧ y.v.cells = YC) := ⟨hj, hyk, hYC⟩
          have HXY : Hid (y.v.ok ∧ x.v.ok ∧ y.v.cells = YC ∧ x.v.cells = XC ∧ eqVx y.v x.v = false) := ⟨hyk.1, HX.out.2.2.1.1, hYC, HX.out.2.2.2.1, by rw [eqVx_dec]; exact decide_eq_false hord.1⟩
          have HR : Hid (U.rangeAt gb (off + i * 35) XC ∧ (Try.prog.info? 34).map (·.size) = some XC.length) := ⟨by rw [← HX.out.2.2.2.1]; exact sx_range (hel i x HX.out.2.1), by rw [← HX.out.2.2.2.1]; exact info34 HX.out.2.2.1.1⟩
          have HR2 : Hid (U.rangeAt gb (off + j * 35) YC ∧ (Try.prog.info? 34).map (·.size) = some YC.length) := ⟨by rw [← hYC]; exact sx_range (hel j y hy), by rw [← hYC]; exact info34 hyk.1⟩
          have HL : Hid (gb < U.heap.size ∧ True) := ⟨hg, trivial⟩
          have HAHD : Hid (∀ V', Below U.heap.size U V' → Calls Try.prog 20 #[.pointer (some ⟨p, 0, none⟩), .agg XC.toArray, .agg YC.toArray] V' fun e w' => e = .returned (.bool false) ∧ Below V'.heap.size V' w') := fun V' hb => ahd_call (HJ.out.2.1.1.below hb) HP.out.1 x.v y.v HX.out.2.2.1 HY.out.2.1 XC YC HX.out.2.2.2.1 HY.out.2.2 false (iff_f hord.2)
          have q3 : (j : Int) < (n : Int) := by have := HX.out.1; omega
          have q5 : (j : Int) < (i : Int) := by omega
          have q6 : j < n := by have := HX.out.1; omega
          clear hj hy hyk hg hel hYC hord
          go_wp2_with fail
          refine or15 (i := i) (j := j) HL HR HR2 q1 HX.out.1 q3 q6 HXY HAHD ?_
          intro U1 hb1
          have HN2 : Hid (j + 1 ≤ i ∧ At7 w p 0 G.ps U1 G ∧ SsR U1 (some ⟨gb, off, none⟩) n S) := ⟨HY.out.1, HJ.out.2.1.below hb1, HJ.out.2.2.below hb1⟩
          clear hb1 HJ HR HR2 HL HAHD q5 q6
          go_wp2
          refine ⟨⟨j + 1, by simp, HN2.out⟩, ?_⟩
          have := HY.out.1; simp [intOf]; omega
        · have q5 : ¬ (j : Int) < (i : Int) := by omega
          obtain rfl : j = i := by have := HJ.out.1; omega
          have HN2 : Hid (j + 1 ≤ n ∧ At7 w p 0 G.ps U G ∧ SsR U (some ⟨gb, off, none⟩) n S) := ⟨HX.out.1, HJ.out.2⟩
          have HM : Hid (j < n) := HX.out.1
          clear HJ hj
          go_wp2
          refine ⟨⟨j + 1, by simp, HN2.out⟩, ?_⟩
          have := HM.out; simp [intOf]; omega
    · have q1 : ¬ (i : Int) < (n : Int) := by omega
      have HF : Hid (At7 w p 0 G.ps V G) := HI.out.2.1
      clear HI hi
      go_wp2_with (first
        | (with_reducible change wpList _ _ _ ({ dst := some 101, op := _, type := _, pos := _, after := _, guard := _ } :: _) _ _
           refine wpList_built rfl 34 _ rfl CB.toArray (by rw [← HBB.out]; first | (simp; done) | (simp; rfl)) ?_)
        | (with_reducible change wpList _ _ _ ({ dst := some 102, op := _, type := _, pos := _, after := _, guard := _ } :: _) _ _
           refine wpList_built rfl 34 _ rfl CT.toArray (by rw [← HBT.out]; first | (simp; done) | (simp; rfl)) ?_)
        | fail)
      refine (ahd_call HF.out.1 HP.out.1 vBot vTop vBot_k vTop_k CB CT HCB.out HCT.out false (iff_f ahd_ends)).mono ?_
      rintro e U2 ⟨rfl, hb⟩
      have H9 : Hid (At7 w p 0 G.ps U2 G) := HF.out.below hb
      clear hb HF
      go_wp2_with fail
      refine (lives_is U2).mono ?_
      rintro e U3 ⟨rfl, hb⟩
      have H10 : Hid (Below w.heap.size w U3) := below_tr H9.out.2.2.2 hb
      clear hb H9
      go_wp2
      go_ret
      exact ⟨rfl, H10.out⟩
end Go.Proofs.Ytjcihaohpbmogaa.Oct
