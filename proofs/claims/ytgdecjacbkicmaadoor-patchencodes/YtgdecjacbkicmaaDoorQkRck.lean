/-
  Layer 10 (patch): the reference's Check.
-/
import Derived.Test.YtgdecjacbkicmaaDoorQkRcr
import Derived.Test.YtgdecjacbkicmaaDoorRefName
/- Layer 10 (patch): the reference's Check. -/
namespace Go.Proofs.YtgdecjacbkicmaaDoor.Oct
open Go.RowKit
set_option maxRecDepth 100000
set_option linter.unusedSimpArgs false
set_option linter.unusedVariables false

theorem many_bound : ∀ (O : List OpV), (∀ o ∈ O, o.ln ≤ 140737488355328) → many O ≤ O.length * 140737488355328
  | [], _ => by simp [many]
  | x :: O, h => by
    have ih := many_bound O (fun o ho => h o (by simp [ho]))
    have e : many (x :: O) = x.ln + many O := by unfold many; rw [List.map_cons, List.sum_cons]
    have := h x (by simp)
    rw [List.length_cons, Nat.add_mul]
    omega
theorem prev_at {D : List Hs} (hD : ∀ h ∈ D, h.length = 32) {i : Nat} (hi : i < D.length) : ∃ x, (z32 :: D)[i]? = some x ∧ x.length = 32 := by
  have hl : i < (z32 :: D).length := by rw [List.length_cons]; omega
  refine ⟨(z32 :: D)[i], List.getElem?_eq_getElem hl, ?_⟩
  have hm := List.getElem_mem hl
  rcases List.mem_cons.1 hm with h | h
  · rw [h]; rfl
  · exact hD _ h
def UpTo (D : List Hs) (i : Nat) : Prop := ∀ (j : Nat) (x y : Hs), j < i → (z32 :: D)[j]? = some x → D[j]? = some y → Lib.compareBytes x y < 0
theorem UpTo.next {D : List Hs} {i : Nat} {x y : Hs} (h : UpTo D i) (hx : (z32 :: D)[i]? = some x) (hy : D[i]? = some y) (hc : Lib.compareBytes x y < 0) : UpTo D (i + 1) := by
  intro j a b hj ha hb
  by_cases hji : j = i
  · subst hji
    rw [hx] at ha
    rw [hy] at hb
    cases ha; cases hb
    exact hc
  · exact h j a b (by omega) ha hb
theorem not_rises {D : List Hs} {i : Nat} {x y : Hs} (hx : (z32 :: D)[i]? = some x) (hy : D[i]? = some y) (hc : ¬ Lib.compareBytes x y < 0) : rises z32 D = false := by
  rw [Bool.eq_false_iff]
  intro h
  exact hc ((rises_iff _ _).1 h i x y hx hy)
/-- which answer it is -/
structure ChkF (p : PV) (E : Int) : Prop where
  head : headB p = false → E = 100
  deps : headB p = true → depsB p.D = false → E = 101
  ops : headB p = true → depsB p.D = true → opsB p.D p.O = false → E = 102
  ok : headB p = true → depsB p.D = true → opsB p.D p.O = true → E = 0
theorem chk_f {p : PV} {E : Int} (h : chk p = E) : ChkF p E := by
  unfold chk at h
  refine ⟨fun h1 => ?_, fun h1 h2 => ?_, fun h1 h2 h3 => ?_, fun h1 h2 h3 => ?_⟩
  · rw [h1, if_pos rfl] at h; exact h.symm
  · rw [h1, h2, if_neg (by decide), if_pos rfl] at h; exact h.symm
  · rw [h1, h2, h3, if_neg (by decide), if_neg (by decide), if_pos rfl] at h; exact h.symm
  · rw [h1, h2, h3, if_neg (by decide), if_neg (by decide), if_neg (by decide)] at h; exact h.symm
set_option maxHeartbeats 8000000 in
theorem rcheck_is (w : World) (p : PV) (h : PR w p) (hz : p.dn ≤ 100000) (E : Int) (hE : chk p = E) : Calls Tryd.prog 13 #[.agg p.cells.toArray] w fun e w' => e = .returned (iv E) ∧ Below w.heap.size w w' := by
  obtain ⟨d, hd⟩ : ∃ d, w.heap.size = d := ⟨_, rfl⟩
  obtain ⟨W, hW⟩ : ∃ W, w.alloc (.cells p.cells.toArray 25) = W := ⟨_, rfl⟩
  have hk : Blk W d 25 p.cells := by rw [← hW, ← hd]; exact Blk.new w _ _
  have hbw : Below w.heap.size w W := by rw [← hW]; exact below_al _ _
  obtain ⟨tm, htm⟩ : ∃ t, p.tm = t := ⟨_, rfl⟩
  obtain ⟨z, hzn⟩ : ∃ z, p.nt.size = z := ⟨_, rfl⟩
  obtain ⟨NB, hNB⟩ : ∃ b, isName p.au.data.toList = b := ⟨_, rfl⟩
  have c0 : W.cell? ⟨d, 0, none⟩ = some (.string p.au) := hk.cell rfl
  have c1 : W.cell? ⟨d, 1, none⟩ = some (iv tm) := by rw [← htm]; exact hk.cell rfl
  have c2 : W.cell? ⟨d, 2, none⟩ = some (.string p.nt) := hk.cell rfl
  have c3 : W.cell? ⟨d, 3, none⟩ = some (.slice p.da p.dn p.dc) := hk.cell rfl
  have qz : (p.nt.size : Int) = (z : Int) := by omega
  have qz2 : (z : Int) ≤ 140737488355328 := by have := h.zn; omega
  have qdn : (p.dn : Int) ≤ 100000 := by omega
  have hau := h.za
  have hF := chk_f hE
  have HP : Hid (PR W p ∧ p.dn ≤ 100000 ∧ Below w.heap.size w W ∧ Blk W d 25 p.cells ∧ ChkF p E) := ⟨h.below hbw, hz, hbw, hk, hF⟩
  have HH : Hid (∀ b, (NB && (decide (0 ≤ tm) && (decide (tm ≤ 1099511627776) && decide ((z : Int) ≤ 200)))) = b → headB p = b) := fun b hb => by
    unfold headB
    rw [hNB, htm, hzn]
    exact hb
  clear h hz hE hk hbw htm hzn hF
  go_enter Tryd.func13, Tryd.ntmps13
  go_wp2_with fail
  refine (refName_b p.au NB hNB W hau).mono ?_
  rintro e W1 ⟨rfl, hw⟩
  subst hw
  clear hNB hau c0
  cases NB with
  | false =>
    have hEE : E = 100 := HP.out.2.2.2.2.head (HH.out false rfl)
    subst hEE
    clear hd hW
    go_wp2
    go_ret
    exact ⟨rfl, HP.out.2.2.1⟩
  | true =>
  by_cases h1 : tm < 0
  · have hEE : E = 100 := HP.out.2.2.2.2.head (HH.out false (by simp; omega))
    subst hEE
    have g1 : decide (tm < 0) = true := decide_eq_true h1
    clear hd hW
    go_wp2
    go_ret
    exact ⟨rfl, HP.out.2.2.1⟩
  have g1 : decide (tm < 0) = false := decide_eq_false h1
  by_cases h2 : 1099511627776 < tm
  · have hEE : E = 100 := HP.out.2.2.2.2.head (HH.out false (by simp; omega))
    subst hEE
    have g2 : decide (1099511627776 < tm) = true := decide_eq_true h2
    clear hd hW
    go_wp2
    go_ret
    exact ⟨rfl, HP.out.2.2.1⟩
  have g2 : decide (1099511627776 < tm) = false := decide_eq_false h2
  by_cases h3 : (200 : Int) < (z : Int)
  · have hEE : E = 100 := HP.out.2.2.2.2.head (HH.out false (by simp; omega))
    subst hEE
    have g3 : decide ((200 : Int) < (z : Int)) = true := decide_eq_true h3
    clear hd hW
    go_wp2
    go_ret
    exact ⟨rfl, HP.out.2.2.1⟩
  have g3 : decide ((200 : Int) < (z : Int)) = false := decide_eq_false h3
  have HHT : Hid (headB p = true) := HH.out true (by simp; omega)
  have q1 : ¬ tm < 0 := h1
  clear HH h1 h2 h3
  by_cases h4 : (16 : Int) < (p.dn : Int)
  · have hEE : E = 101 := HP.out.2.2.2.2.deps HHT.out (by unfold depsB; rw [decide_eq_false (by rw [HP.out.1.deps.1]; omega), Bool.false_and])
    subst hEE
    have g4 : decide ((16 : Int) < (p.dn : Int)) = true := decide_eq_true h4
    clear hd hW
    go_wp2
    go_ret
    exact ⟨rfl, HP.out.2.2.1⟩
  have g4 : decide ((16 : Int) < (p.dn : Int)) = false := decide_eq_false h4
  have HDN : Hid (p.dn ≤ 16) := by show _ ≤ _; omega
  clear h4 hd hW
  go_wp2_with fail
  clear g1 g2 g3 g4 c1 c2 c3 q1 qz qz2
  go_loopw [3] (fun u wr => ∃ i : Nat, u = iv (i : Int) ∧ (i : Int) ≤ (p.dn : Int) ∧ Hid (UpTo p.D i ∧ Below W.heap.size W wr)) (fun u _ => p.dn - (intOf u).toNat)
  case atStart => exact ⟨0, rfl, by omega, (fun j x y hj => absurd hj (by omega)), Below.refl _ _⟩
  case round =>
    obtain ⟨V, hV⟩ : ∃ V, V = wr := ⟨_, rfl⟩
    subst hV
    obtain ⟨i, rfl, qi, HI⟩ := hrel
    have kV : Blk V d 25 p.cells := HP.out.2.2.2.1.below HI.out.2 HP.out.2.2.2.1.lt
    have c3 : V.cell? ⟨d, 3, none⟩ = some (.slice p.da p.dn p.dc) := kV.cell rfl
    have hPV := HP.out.1.below HI.out.2
    by_cases hi : i < p.dn
    · have q1 : (i : Int) < (p.dn : Int) := by omega
      have g1 : decide ((i : Int) < (p.dn : Int)) = true := decide_eq_true q1
      obtain ⟨y, hy⟩ : ∃ y, p.D[i]? = some y := ⟨_, List.getElem?_eq_getElem (by rw [hPV.deps.1]; exact hi)⟩
      obtain ⟨x', hx', lx'⟩ := prev_at hPV.deps.2.1 (i := i) (by rw [hPV.deps.1]; exact hi)
      obtain ⟨g, off, hoa, hg, hel⟩ := hPV.deps.2.2 (by omega)
      rw [hoa] at c3
      have ly := hPV.deps.2.1 y (List.mem_of_getElem? hy)
      have HL : Hid (d < V.heap.size ∧ g < V.heap.size) := ⟨kV.lt, hg⟩
      have HY : Hid (p.D[i]? = some y ∧ (z32 :: p.D)[i]? = some x' ∧ x'.length = 32 ∧ y.length = 32 ∧ i < p.dn) := ⟨hy, hx', lx', ly, hi⟩
      have HRi : Hid (V.rangeAt g (off + i * 32) (U y)) := hel i y hy
      have HELL : Hid (∀ i h, p.D[i]? = some h → V.rangeAt g (off + i * 32) (U h)) := hel
      clear kV hPV hoa hg hel ly hy hx' lx' qi
      by_cases hyz : y = z32
      · have hEE : E = 101 := HP.out.2.2.2.2.deps HHT.out (by unfold depsB; rw [not_rises HY.out.2.1 HY.out.1 (by rw [hyz]; exact cmp_no 32 x' HY.out.2.2.1), Bool.and_false])
        subst hEE
        have HZ : Hid (decide (y = z32) = true) := decide_eq_true hyz
        clear hyz
        go_wp2_with fail
        refine rc8a (j := i) (x := y) HL c3 ⟨HRi.out, HRi.out⟩ ⟨HY.out.2.2.2.1, HY.out.2.2.2.1⟩ HZ q1 hi ?_
        intro V2 hb2
        have HF : Hid (Below w.heap.size w V2) := below_tr (below_tr HP.out.2.2.1 HI.out.2) hb2
        clear hb2 c3 HI HL g1
        go_wp2
        go_ret
        exact ⟨rfl, HF.out⟩
      · have HZ : Hid (decide (y = z32) = false) := decide_eq_false hyz
        by_cases hi0 : i = 0
        · subst hi0
          have HN : Hid (UpTo p.D 1) := HI.out.1.next HY.out.2.1 HY.out.1 (by
            have e := HY.out.2.1
            rw [List.getElem?_cons_zero] at e
            cases e
            exact (cmp_zero 32 y HY.out.2.2.2.1).2 hyz)
          clear hyz
          go_wp2_with fail
          refine rc8b (i := 0) (j := 0) (x := y) HL c3 ⟨HRi.out, HRi.out⟩ ⟨HY.out.2.2.2.1, HY.out.2.2.2.1⟩ HZ q1 hi (by exact rfl) ?_
          intro V2 hb2
          have HF : Hid (Below W.heap.size W V2) := below_tr HI.out.2 hb2
          clear hb2 c3 HI HL g1
          go_wp2
          go_roundw
          case rel => exact ⟨1, by simp, by have := HY.out.2.2.2.2; omega, HN.out, HF.out⟩
          case measure => have := HY.out.2.2.2.2; simp only [intOf]; omega
        · obtain ⟨j, rfl⟩ : ∃ j, i = j + 1 := ⟨i - 1, by omega⟩
          have HG : Hid (decide (0 < ((j + 1 : Nat) : Int)) = true) := decide_eq_true (by omega)
          have HJ : Hid (IntKind.i64.wrap (((j + 1 : Nat) : Int) - 1) = (j : Int)) := by
            show _ = _
            rw [IntKind.wrap_i64]
            omega
          have q3 : (j : Int) < (p.dn : Int) := by omega
          have q4 : j < p.dn := by omega
          have hxj : p.D[j]? = some x' := by have := HY.out.2.1; rwa [List.getElem?_cons_succ] at this
          have HRj : Hid (V.rangeAt g (off + j * 32) (U x')) := HELL.out j x' hxj
          obtain ⟨R, hR⟩ : ∃ R, decide (Lib.compareBytes x' y < 0) = R := ⟨_, rfl⟩
          have H25 : Hid (∀ V2, Below V.heap.size V V2 → Calls Tryd.prog 25 #[.agg (U x').toArray, .agg (U y).toArray] V2 fun e V3 => e = .returned (.bool R) ∧ Below V2.heap.size V2 V3) := fun V2 _ => rbelow_is V2 x' y HY.out.2.2.1 HY.out.2.2.2.1 R hR
          have HRR : Hid (decide (Lib.compareBytes x' y < 0) = R) := hR
          clear hyz hi0 hxj hR
          cases R with
          | true =>
            have HN : Hid (UpTo p.D (j + 1 + 1)) := HI.out.1.next HY.out.2.1 HY.out.1 (of_decide_eq_true HRR.out)
            go_wp2_with fail
            refine rc8c HL c3 ⟨HRj.out, HRi.out⟩ ⟨HY.out.2.2.1, HY.out.2.2.2.1⟩ HZ q1 hi HG HJ q3 q4 H25 ?_
            intro V2 hb2
            have HF : Hid (Below W.heap.size W V2) := below_tr HI.out.2 hb2
            clear hb2 c3 HI HL g1 H25
            go_wp2
            go_roundw
            case rel => exact ⟨j + 1 + 1, by simp, by have := HY.out.2.2.2.2; omega, HN.out, HF.out⟩
            case measure => have := HY.out.2.2.2.2; simp only [intOf]; omega
          | false =>
            have hEE : E = 101 := HP.out.2.2.2.2.deps HHT.out (by unfold depsB; rw [not_rises HY.out.2.1 HY.out.1 (of_decide_eq_false HRR.out), Bool.and_false])
            subst hEE
            go_wp2_with fail
            refine rc8d HL c3 ⟨HRj.out, HRi.out⟩ ⟨HY.out.2.2.1, HY.out.2.2.2.1⟩ HZ q1 hi HG HJ q3 q4 H25 ?_
            intro V2 hb2
            have HF : Hid (Below w.heap.size w V2) := below_tr (below_tr HP.out.2.2.1 HI.out.2) hb2
            clear hb2 c3 HI HL g1 H25
            go_wp2
            go_ret
            exact ⟨rfl, HF.out⟩
    · have g1 : decide ((i : Int) < (p.dn : Int)) = false := decide_eq_false (by omega)
      have HDB : Hid (depsB p.D = true) := by
        show depsB p.D = true
        unfold depsB
        rw [decide_eq_true (by rw [hPV.deps.1]; exact HDN.out), Bool.true_and]
        refine (rises_iff _ _).2 fun j x y hx hy => HI.out.1 j x y ?_ hx hy
        have := (List.getElem?_eq_some_iff.1 hy).1
        have e := hPV.deps.1
        omega
      have q5 : (p.dn : Int) ≤ (i : Int) := by omega
      have c4 : V.cell? ⟨d, 4, none⟩ = some (.slice p.oa p.on p.oc) := kV.cell rfl
      have qon : (p.on : Int) ≤ 140737488355328 := by have := hPV.zo; omega
      have HV : Hid (PR V p ∧ Below w.heap.size w V ∧ Blk V d 25 p.cells ∧ ChkF p E ∧ p.dn ≤ 100000) := ⟨hPV, below_tr HP.out.2.2.1 HI.out.2, kV, HP.out.2.2.2.2, HP.out.2.1⟩
      clear hi HI kV hPV qi HDN HP
      obtain ⟨n, hn⟩ : ∃ n, p.on = n := ⟨_, rfl⟩
      rw [hn] at c4 qon
      have HN : Hid (p.on = n) := hn
      clear hn
      by_cases hn0 : n = 0
      · subst hn0
        have hEE : E = 102 := HV.out.2.2.2.1.ops HHT.out HDB.out (by unfold opsB; rw [decide_eq_false (by rw [HV.out.1.ops.1, HN.out]; omega), Bool.false_and])
        subst hEE
        go_wp2
        go_ret
        exact ⟨rfl, HV.out.2.1⟩
      have en : ((n : Int) == 0) = false := by rw [beq_eq_false_iff_ne]; omega
      by_cases hn16 : (16 : Int) < (n : Int)
      · have hEE : E = 102 := HV.out.2.2.2.1.ops HHT.out HDB.out (by unfold opsB; rw [decide_eq_false (p := p.O.length ≤ 16) (by rw [HV.out.1.ops.1, HN.out]; omega), Bool.false_and, Bool.and_false])
        subst hEE
        have g6 : decide ((16 : Int) < (n : Int)) = true := decide_eq_true hn16
        clear hn0
        go_wp2
        go_ret
        exact ⟨rfl, HV.out.2.1⟩
      have g6 : decide ((16 : Int) < (n : Int)) = false := decide_eq_false hn16
      have qn16 : (n : Int) ≤ 16 := by omega
      have HNN : Hid (1 ≤ n ∧ n ≤ 16) := ⟨by omega, by omega⟩
      clear hn0 hn16
      go_wp2_with fail
      clear g1 g6 en c4 q5 c3
      go_loopw [5, 4] (fun u s wr => ∃ i N : Nat, u = iv (i : Int) ∧ s = iv (N : Int) ∧ (i : Int) ≤ (n : Int) ∧ (N : Int) ≤ 2251799813685248 ∧ Hid (N = many (p.O.take i) ∧ (∀ j o, j < i → p.O[j]? = some o → opB p.D o = true) ∧ Below V.heap.size V wr)) (fun u _ _ => n - (intOf u).toNat)
      case atStart => exact ⟨0, 0, rfl, rfl, by omega, by omega, by simp [many], (fun j o hj => absurd hj (by omega)), Below.refl _ _⟩
      case round =>
        obtain ⟨V2, hV2⟩ : ∃ V, V = wr := ⟨_, rfl⟩
        subst hV2
        obtain ⟨k, N, rfl, rfl, qk, qN, HI⟩ := hrel
        have kV : Blk V2 d 25 p.cells := HV.out.2.2.1.below HI.out.2.2 HV.out.2.2.1.lt
        have c4 : V2.cell? ⟨d, 4, none⟩ = some (.slice p.oa n p.oc) := by rw [← HN.out]; exact kV.cell rfl
        have hPV := HV.out.1.below HI.out.2.2
        by_cases hi : k < n
        · have q1 : (k : Int) < (n : Int) := by omega
          have g1 : decide ((k : Int) < (n : Int)) = true := decide_eq_true q1
          obtain ⟨x, hx⟩ : ∃ x, p.O[k]? = some x := ⟨_, List.getElem?_eq_getElem (by rw [hPV.ops.1, HN.out]; exact hi)⟩
          obtain ⟨g, off, hoa, hg, hel⟩ := hPV.ops.2.2 (by rw [HN.out]; omega)
          have hxo := hPV.ops.2.1 x (List.mem_of_getElem? hx)
          rw [hoa] at c4
          obtain ⟨B, hB⟩ : ∃ B, opB p.D x = B := ⟨_, rfl⟩
          obtain ⟨ln, hln⟩ : ∃ n, x.ln = n := ⟨_, rfl⟩
          have HL : Hid (d < V2.heap.size ∧ g < V2.heap.size) := ⟨kV.lt, hg⟩
          have HPP : Hid (V2.rangeAt d 0 p.cells) := kV.range0
          have HO : Hid (V2.rangeAt g (off + k * 69) x.cells) := hel k x hx
          have HXX : Hid x.ok := hxo.1
          have H26 : Hid (∀ V3, Below V2.heap.size V2 V3 → Calls Tryd.prog 26 #[.agg p.cells.toArray, .agg x.cells.toArray] V3 fun e V4 => e = .returned (.bool B) ∧ Below V3.heap.size V3 V4) := fun V3 hb => rop_is V3 p x (hPV.below hb) HV.out.2.2.2.2 hxo.1 (hxo.2.below hb) B hB
          have HX : Hid (k < n ∧ p.O[k]? = some x ∧ opB p.D x = B ∧ x.ln = ln ∧ ln ≤ 140737488355328 ∧ x ∈ p.O ∧ many (p.O.take (k + 1)) = N + ln ∧ many (p.O.take (k + 1)) ≤ 2251799813685248) := by
            have e := many_take p.O k x hx
            rw [← HI.out.1, hln] at e
            have hb := many_bound (p.O.take (k + 1)) (fun o ho => (hPV.ops.2.1 o (List.mem_of_mem_take ho)).1.2.2.2.1)
            have hl : (p.O.take (k + 1)).length ≤ 16 := by rw [List.length_take]; have := HNN.out.2; omega
            have hm : (p.O.take (k + 1)).length * 140737488355328 ≤ 16 * 140737488355328 := Nat.mul_le_mul_right _ hl
            exact ⟨hi, hx, hB, hln, by rw [← hln]; exact hxo.1.2.2.2.1, List.mem_of_getElem? hx, e, by omega⟩
          clear kV hPV hx hoa hg hel hxo hB hln qk
          cases B with
          | false =>
            have hEE : E = 102 := HV.out.2.2.2.1.ops HHT.out HDB.out (by
              unfold opsB
              have : p.O.all (opB p.D) = false := by
                rw [List.all_eq_false]
                exact ⟨x, HX.out.2.2.2.2.2.1, by rw [HX.out.2.2.1]; decide⟩
              rw [this, Bool.and_false, Bool.and_false, Bool.and_false])
            subst hEE
            go_wp2_with fail
            refine rc16f HL HPP c4 HO HXX q1 hi H26 ?_
            intro V3 hb3
            have HF : Hid (Below w.heap.size w V3) := below_tr (below_tr HV.out.2.1 HI.out.2.2) hb3
            clear hb3 c4 HI HL HPP HO H26 g1
            go_wp2
            go_ret
            exact ⟨rfl, HF.out⟩
          | true =>
            go_wp2_with fail
            refine rc16t HL HPP c4 HO HXX q1 hi H26 ?_
            intro V3 hb3
            have k4 : V3.cell? ⟨d, 4, none⟩ = some (.slice (some ⟨g, off, none⟩) n p.oc) := (hb3.cell (p := ⟨d, 4, none⟩) HL.out.1).trans c4
            have k68 : V3.cell? ⟨g, off + k * 69 + 68, none⟩ = some (.slice x.la ln x.lc) := by
              rw [← HX.out.2.2.2.1]
              exact rangeAt_same HO.out (hb3.block g HL.out.2) 68 _ (OpV.c68 HXX.out)
            have HF : Hid (Below V.heap.size V V3 ∧ (∀ j o, j < k + 1 → p.O[j]? = some o → opB p.D o = true)) := ⟨below_tr HI.out.2.2 hb3, fun j o hj ho => by
              by_cases hji : j = k
              · subst hji
                rw [HX.out.2.1] at ho
                cases ho
                exact HX.out.2.2.1
              · exact HI.out.2.1 j o (by omega) ho⟩
            have qln : (ln : Int) ≤ 140737488355328 := by have := HX.out.2.2.2.2.1; omega
            clear hb3 c4 HI HL HPP HO H26 HXX
            go_wp2
            go_roundw
            case rel => exact ⟨k + 1, N + ln, by simp, by first | (congr 1; done) | (congr 1; omega), by have := HX.out.1; omega, by have := HX.out.2.2.2.2.2.2; omega, HX.out.2.2.2.2.2.2.1.symm, HF.out.2, HF.out.1⟩
            case measure => have := HX.out.1; simp only [intOf]; omega
        · have g1 : decide ((k : Int) < (n : Int)) = false := decide_eq_false (by omega)
          have q5 : (n : Int) ≤ (k : Int) := by omega
          have hlen : p.O.length = n := by rw [hPV.ops.1, HN.out]
          have hall : p.O.all (opB p.D) = true := List.all_eq_true.2 fun o ho => by
            obtain ⟨j, hj, e⟩ := List.getElem_of_mem ho
            exact HI.out.2.1 j o (by omega) (by rw [List.getElem?_eq_getElem hj, e])
          have hmany : N = many p.O := by rw [HI.out.1, List.take_of_length_le (by omega)]
          have hops : opsB p.D p.O = decide (N ≤ 64) := by
            unfold opsB
            rw [hall, Bool.and_true, decide_eq_true (p := 1 ≤ p.O.length) (by have := HNN.out.1; omega), decide_eq_true (p := p.O.length ≤ 16) (by have := HNN.out.2; omega), Bool.true_and, Bool.true_and, hmany]
          have HF : Hid (Below w.heap.size w V2) := below_tr HV.out.2.1 HI.out.2.2
          by_cases hN : (64 : Int) < (N : Int)
          · have hEE : E = 102 := HV.out.2.2.2.1.ops HHT.out HDB.out (by rw [hops]; exact decide_eq_false (by omega))
            subst hEE
            have g7 : decide ((64 : Int) < (N : Int)) = true := decide_eq_true hN
            clear hi hops hmany hall hlen kV hPV HI
            go_wp2
            go_ret
            exact ⟨rfl, HF.out⟩
          · have hEE : E = 0 := HV.out.2.2.2.1.ok HHT.out HDB.out (by rw [hops]; exact decide_eq_true (by omega))
            subst hEE
            have g7 : decide ((64 : Int) < (N : Int)) = false := decide_eq_false hN
            have q7 : (N : Int) ≤ 64 := by omega
            clear hi hops hmany hall hlen kV hPV HI hN
            go_wp2
            go_ret
            exact ⟨rfl, HF.out⟩
end Go.Proofs.YtgdecjacbkicmaaDoor.Oct
