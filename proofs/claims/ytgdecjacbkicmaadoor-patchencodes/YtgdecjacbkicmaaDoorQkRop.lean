/-
  Layer 10 (patch): the reference: an operation.
-/
import Derived.Test.YtgdecjacbkicmaaDoorQkC
import Derived.Test.YtgdecjacbkicmaaDoorRefSplit
/- Layer 10 (patch): the reference: an operation. -/
namespace Go.Proofs.YtgdecjacbkicmaaDoor.Oct
open Go.RowKit
set_option maxRecDepth 100000
set_option linter.unusedSimpArgs false
set_option linter.unusedVariables false

theorem run_idx (s : BA) (i : Nat) (c : UInt8) (h : s.data.toList[i]? = some c) (W : World) : (Instr.index 9 (.string s) (iv (i : Int))).run Tryd.prog W = .ok (bv (c.toNat : Int)) W := by
  have hs : s[i]? = some c := by
    have hi := (List.getElem?_eq_some_iff.1 h).1
    have hi' : i < s.size := hi
    rw [getElem?_pos s i hi']
    have := (List.getElem?_eq_some_iff.1 h).2
    rw [← this]
    rfl
  simp [Instr.index, run_underlying Tryd.underlying9, asIntOf, hs, go_sem]
theorem wpList_idx {ops : Array Oper} {rest : List Oper} {o : Oper} {a : Act} {w : World} {Q : Exit → Act → World → Prop} (hgd : o.guard = none) (x y : Operand) (hop : o.op = .index 9 x y) (s : BA) (i : Nat) (c : UInt8) (hx : a.eval x = .string s) (hy : a.eval y = iv (i : Int)) (h : s.data.toList[i]? = some c)
    (hk : wpList Tryd.prog ops Q rest (a.put o.dst (bv (c.toNat : Int))) w) : wpList Tryd.prog ops Q (o :: rest) a w := by
  refine wpList_plain hgd fun K hK => ?_
  have h1 := run_idx s i c h w
  unfold Oper.wp execOp
  simp only [hop, Sem.run_bind, Sem.run_pure, Result.andThen_ok, hx, hy, h1]
  exact hK _ _ hk
theorem opB_two {D : List Hs} {o : OpV} (hp : isPath o.path.data.toList = true) (h : o.kind = 2) : opB D o = (lineOf D o.up && (eqVx o.dn vTop && decide (o.ln = 0))) := by
  unfold opB addB killB
  rw [hp, h]
  simp
theorem opB_one {D : List Hs} {o : OpV} (hp : isPath o.path.data.toList = true) (h : o.kind = 1) : opB D o = (decide (0 < (o.ln : Int)) && (!o.ts.any bad && ((eqVx o.up vTop || lineOf D o.up) && ((eqVx o.dn vBot || lineOf D o.dn) && !eqVx o.up o.dn)))) := by
  unfold opB addB killB
  rw [hp, h]
  simp
theorem opB_no {D : List Hs} {o : OpV} (h1 : o.kind ≠ 1) (h2 : o.kind ≠ 2) : opB D o = false := by
  unfold opB addB killB
  simp [h1, h2]
set_option maxHeartbeats 8000000 in
theorem rop_is (w : World) (p : PV) (o : OpV) (hp : PR w p) (hz : p.dn ≤ 100000) (ho : o.ok) (hs : Strs w o.la o.ln o.ts) (B : Bool) (hB : opB p.D o = B) : Calls Tryd.prog 26 #[.agg p.cells.toArray, .agg o.cells.toArray] w fun e w' => e = .returned (.bool B) ∧ Below w.heap.size w w' := by
  obtain ⟨d2, hd2⟩ : ∃ d, w.heap.size = d := ⟨_, rfl⟩
  obtain ⟨W1, hW1⟩ : ∃ W, w.alloc (.cells p.cells.toArray 25) = W := ⟨_, rfl⟩
  obtain ⟨d3, hd3⟩ : ∃ d, W1.heap.size = d := ⟨_, rfl⟩
  obtain ⟨W, hW⟩ : ∃ W, W1.alloc (.cells o.cells.toArray 45) = W := ⟨_, rfl⟩
  have b1 : Below w.heap.size w W1 := by rw [← hW1]; exact below_al _ _
  have b2 : Below W1.heap.size W1 W := by rw [← hW]; exact below_al _ _
  have k2 : Blk W d2 25 p.cells := by have h : Blk W1 d2 25 p.cells := by rw [← hW1, ← hd2]; exact Blk.new w _ _
                                      exact h.below b2 h.lt
  have k3 : OpB W d3 o := ⟨by rw [← hW, ← hd3]; exact Blk.new W1 _ _, ho⟩
  have c1 := k3.path
  have qps : (o.path.size : Int) ≤ 140737488355328 := by have := ho.2.2.2.2.1; omega
  have HP : Hid (PR W p ∧ p.dn ≤ 100000 ∧ o.ok ∧ Strs W o.la o.ln o.ts ∧ Below w.heap.size w W ∧ Blk W d2 25 p.cells ∧ OpB W d3 o) := ⟨hp.below (below_tr b1 b2), hz, ho, hs.below (below_tr b1 b2), below_tr b1 b2, k2, k3⟩
  have HB : Hid (opB p.D o = B) := hB
  obtain ⟨PB, hPB⟩ : ∃ b, isPath o.path.data.toList = b := ⟨_, rfl⟩
  clear hp hz ho hs b1 b2 k2 k3 hB
  go_enter Tryd.func26, Tryd.ntmps26
  go_wp2_with fail
  refine (refPath_b o.path PB hPB W (by omega)).mono ?_
  rintro e V1 ⟨rfl, hb1⟩
  have HX : Hid (PR V1 p ∧ p.dn ≤ 100000 ∧ o.ok ∧ Strs V1 o.la o.ln o.ts ∧ Below w.heap.size w V1 ∧ Blk V1 d2 25 p.cells ∧ OpB V1 d3 o) := ⟨HP.out.1.below hb1, HP.out.2.1, HP.out.2.2.1, HP.out.2.2.2.1.below hb1, below_tr HP.out.2.2.2.2.1 hb1, HP.out.2.2.2.2.2.1.below hb1 HP.out.2.2.2.2.2.1.lt, HP.out.2.2.2.2.2.2.below hb1⟩
  clear hb1 HP c1 hd2 hW1 hd3 hW qps
  cases PB with
  | false =>
    have hBf : B = false := by
      rw [← HB.out]
      unfold opB
      rw [hPB, Bool.false_and]
    subst hBf
    clear hPB
    go_wp2
    go_ret
    exact ⟨rfl, HX.out.2.2.2.2.1⟩
  | true =>
  have c0 := HX.out.2.2.2.2.2.2.kind
  have c68 := HX.out.2.2.2.2.2.2.lines
  obtain ⟨kd, hkd⟩ : ∃ m, o.kind = m := ⟨_, rfl⟩
  rw [hkd] at c0
  by_cases h2 : kd = 2
  · subst h2
    have hB2 := HB.out
    rw [opB_two hPB hkd] at hB2
    clear HB hPB hkd
    obtain ⟨UL, hUL⟩ : ∃ b, lineOf p.D o.up = b := ⟨_, rfl⟩
    obtain ⟨E, hE⟩ : ∃ b, eqVx o.dn vTop = b := ⟨_, rfl⟩
    have HE : Hid (lineOf p.D o.up = UL ∧ eqVx o.dn vTop = E) := ⟨hUL, hE⟩
    rw [hUL, hE] at hB2
    clear hUL hE c68
    have HBL := built49
    go_wp2_with (with_reducible change wpList _ _ _ ({ dst := some 14, op := _, type := _, pos := _, after := _, guard := _ } :: _) _ _; refine Hid.out ?_)
    show wpList _ _ _ _ _ _
    refine wpList_load_mid rfl 25 (.tmp 2) rfl d2 0 rfl p.cells _ HX.out.2.2.2.2.2.1.range0 Tryd.underlying25 rfl (info25 p) ?_
    go_wp2_with (with_reducible change wpList _ _ _ ({ dst := some 16, op := _, type := _, pos := _, after := _, guard := _ } :: _) _ _; refine Hid.out ?_)
    show wpList _ _ _ _ _ _
    refine wpList_load_mid rfl 42 (.tmp 15) rfl d3 2 rfl o.up.cells _ HX.out.2.2.2.2.2.2.up Tryd.underlying42 rfl (info49 HX.out.2.2.1.1) ?_
    go_wp2_with fail
    refine (own_is V1 p HX.out.1 HX.out.2.1 o.up HX.out.2.2.1.1 UL HE.out.1).mono ?_
    rintro e V2 ⟨rfl, hb2⟩
    have H2 : Hid (Below w.heap.size w V2 ∧ OpB V2 d3 o ∧ o.ok) := ⟨below_tr HX.out.2.2.2.2.1 hb2, HX.out.2.2.2.2.2.2.below hb2, HX.out.2.2.1⟩
    have c68 := H2.out.2.1.lines
    have qln : (o.ln : Int) ≤ 140737488355328 := by have := H2.out.2.2.2.2.2.1; omega
    clear hb2 HX c0
    cases UL with
    | false =>
      rw [Bool.false_and] at hB2
      subst hB2
      go_wp2
      go_ret
      exact ⟨rfl, H2.out.1⟩
    | true =>
      rw [Bool.true_and] at hB2
      go_wp2_with (with_reducible change wpList _ _ _ ({ dst := some 20, op := _, type := _, pos := _, after := _, guard := _ } :: _) _ _; refine Hid.out ?_)
      show wpList _ _ _ _ _ _
      refine wpList_load_want (by kernel_rfl) 42 (.tmp 19) rfl d3 35 rfl o.dn.cells _ H2.out.2.1.dn Tryd.underlying42 rfl (info49 H2.out.2.2.2.1) ?_
      go_wp2_with (with_reducible change wpList _ _ _ ({ dst := some 21, op := _, type := _, pos := _, after := _, guard := _ } :: _) _ _; refine Hid.out ?_)
      show wpList _ _ _ _ _ _
      refine wpList_built_want (by kernel_rfl) 42 _ rfl vTop.cells.toArray (by rw [← HBL]; simp) ?_
      go_wp2_with (with_reducible change wpList _ _ _ ({ dst := some 22, op := _, type := _, pos := _, after := _, guard := _ } :: _) _ _; refine Hid.out ?_)
      show wpList _ _ _ _ _ _
      refine wpList_eqV (by kernel_rfl) (.tmp 20) (.tmp 21) rfl o.dn vTop H2.out.2.2.2.1 vTop_ok E HE.out.2 rfl rfl ?_
      cases E with
      | false =>
        rw [Bool.false_and] at hB2
        subst hB2
        go_wp2
        go_ret
        exact ⟨rfl, H2.out.1⟩
      | true =>
        rw [Bool.true_and] at hB2
        have hB' : ((o.ln : Int) == 0) = B := by
          rw [← hB2, Bool.eq_iff_iff]
          simp
        clear hB2
        cases B with
        | true =>
          go_wp2
          go_ret
          exact ⟨rfl, H2.out.1⟩
        | false =>
          go_wp2
          go_ret
          exact ⟨rfl, H2.out.1⟩
  · have e2 : (kd == 2) = false := by simpa using h2
    by_cases h1 : kd = 1
    · subst h1
      clear h2 e2
      have hB1 := HB.out
      rw [opB_one hPB hkd] at hB1
      clear HB hPB hkd
      obtain ⟨n, hn⟩ : ∃ n, o.ln = n := ⟨_, rfl⟩
      have qn : (n : Int) ≤ 140737488355328 := by have := HX.out.2.2.1.2.2.2.1; omega
      obtain ⟨E, hE⟩ : ∃ b, eqVx o.up o.dn = b := ⟨_, rfl⟩
      have HE : Hid (eqVx o.up o.dn = E ∧ o.ln = n) := ⟨hE, hn⟩
      rw [hE, hn] at hB1
      rw [hn] at c68
      clear hE hn
      by_cases hn0 : n = 0
      · subst hn0
        have hBf : B = false := by rw [← hB1]; simp
        subst hBf
        clear hB1
        go_wp2
        go_ret
        exact ⟨rfl, HX.out.2.2.2.2.1⟩
      · have en : ((n : Int) == 0) = false := by rw [beq_eq_false_iff_ne]; omega
        have en2 : decide (0 < (n : Int)) = true := decide_eq_true (by omega)
        rw [en2, Bool.true_and] at hB1
        clear en2
        go_wp2_with (with_reducible change wpList _ _ _ ({ dst := some 41, op := _, type := _, pos := _, after := _, guard := _ } :: _) _ _; refine Hid.out ?_)
        show wpList _ _ _ _ _ _
        refine wpList_load_want (by kernel_rfl) 42 (.tmp 40) rfl d3 2 rfl o.up.cells _ HX.out.2.2.2.2.2.2.up Tryd.underlying42 rfl (info49 HX.out.2.2.1.1) ?_
        go_wp2_with (with_reducible change wpList _ _ _ ({ dst := some 43, op := _, type := _, pos := _, after := _, guard := _ } :: _) _ _; refine Hid.out ?_)
        show wpList _ _ _ _ _ _
        refine wpList_load_want (by kernel_rfl) 42 (.tmp 42) rfl d3 35 rfl o.dn.cells _ HX.out.2.2.2.2.2.2.dn Tryd.underlying42 rfl (info49 HX.out.2.2.1.2.1) ?_
        go_wp2_with (with_reducible change wpList _ _ _ ({ dst := some 44, op := _, type := _, pos := _, after := _, guard := _ } :: _) _ _; refine Hid.out ?_)
        show wpList _ _ _ _ _ _
        refine wpList_eqV (by kernel_rfl) (.tmp 41) (.tmp 43) rfl o.up o.dn HX.out.2.2.1.1 HX.out.2.2.1.2.1 E HE.out.1 rfl rfl ?_
        cases E with
        | true =>
          have hBf : B = false := by rw [← hB1]; simp
          subst hBf
          clear hB1
          go_wp2
          go_ret
          exact ⟨rfl, HX.out.2.2.2.2.1⟩
        | false =>
          obtain ⟨uT, huT⟩ : ∃ b, eqVx o.up vTop = b := ⟨_, rfl⟩
          obtain ⟨UL, hUL⟩ : ∃ b, lineOf p.D o.up = b := ⟨_, rfl⟩
          obtain ⟨dB, hdB⟩ : ∃ b, eqVx o.dn vBot = b := ⟨_, rfl⟩
          obtain ⟨DL, hDL⟩ : ∃ b, lineOf p.D o.dn = b := ⟨_, rfl⟩
          rw [huT, hUL, hdB, hDL, Bool.not_false, Bool.and_true] at hB1
          have HBf : Hid (∀ t, t ∈ o.ts → bad t = true → B = false) := fun t ht hb => by
            have : o.ts.any bad = true := List.any_eq_true.2 ⟨t, ht, hb⟩
            rw [← hB1, this]
            rfl
          have HBt : Hid ((∀ t ∈ o.ts, bad t = false) → ((uT || UL) && (dB || DL)) = B) := fun h => by
            have : o.ts.any bad = false := List.any_eq_false.2 (fun t ht => by rw [h t ht]; decide)
            rw [← hB1, this]
            rfl
          have HV : Hid (o.up.ok ∧ o.dn.ok) := ⟨HX.out.2.2.1.1, HX.out.2.2.1.2.1⟩
          have HC : Hid (eqVx o.up vTop = uT ∧ lineOf p.D o.up = UL ∧ eqVx o.dn vBot = dB ∧ lineOf p.D o.dn = DL) := ⟨huT, hUL, hdB, hDL⟩
          obtain ⟨b, o2, hla, hbl, hse⟩ := HX.out.2.2.2.1.2 (by rw [HE.out.2]; omega)
          rw [hla] at c68
          have HS : Hid (o.ts.length = n ∧ (∀ i x, o.ts[i]? = some x → V1.cell? ⟨b, o2 + i, none⟩ = some (.string x)) ∧ ∀ t ∈ o.ts, t.size ≤ 140737488355328) := ⟨by rw [HX.out.2.2.1.2.2.1, HE.out.2], hse, HX.out.2.2.1.2.2.2.2.2.1⟩
          clear huT hUL hdB hDL hB1 hla hbl hse c0 en HE hn0
          go_wp2_with fail
          go_loopw [5] (fun u wr => ∃ i : Nat, u = iv (i : Int) ∧ (i : Int) ≤ (n : Int) ∧ Hid ((∀ j t, j < i → o.ts[j]? = some t → bad t = false) ∧ V1 = wr)) (fun u _ => n - (intOf u).toNat)
          case atStart => exact ⟨0, rfl, by omega, (fun j t hj => absurd hj (by omega)), rfl⟩
          case round =>
            obtain ⟨i, rfl, qi, HI⟩ := hrel
            obtain ⟨hI, hw⟩ := HI.out
            subst hw
            clear HI
            by_cases hi : i < n
            · have q1 : (i : Int) < (n : Int) := by omega
              have g1 : decide ((i : Int) < (n : Int)) = true := decide_eq_true q1
              obtain ⟨t, ht⟩ : ∃ t, o.ts[i]? = some t := ⟨_, List.getElem?_eq_getElem (by rw [HS.out.1]; exact hi)⟩
              have kt := HS.out.2.1 i t ht
              obtain ⟨z, hzt⟩ : ∃ z, t.size = z := ⟨_, rfl⟩
              have qz : (t.size : Int) = (z : Int) := by omega
              have qz2 : (z : Int) ≤ 140737488355328 := by have := HS.out.2.2 t (List.mem_of_getElem? ht); omega
              have HT : Hid (t ∈ o.ts ∧ t.data.toList.length = z ∧ o.ts[i]? = some t ∧ i < n ∧ (∀ j t, j < i → o.ts[j]? = some t → bad t = false)) := ⟨List.mem_of_getElem? ht, hzt, ht, hi, hI⟩
              clear ht hzt hI hi
              by_cases hz : 200 < z
              · have hBf : B = false := HBf.out t HT.out.1 (by unfold bad; rw [decide_eq_true (show 200 < t.size by omega), Bool.true_or])
                subst hBf
                have q3 : (200 : Int) < (z : Int) := by omega
                have g3 : decide ((200 : Int) < (z : Int)) = true := decide_eq_true q3
                clear hz
                go_wp2
                go_ret
                exact ⟨rfl, HX.out.2.2.2.2.1⟩
              · have q3 : (z : Int) ≤ 200 := by omega
                have g3 : decide ((200 : Int) < (z : Int)) = false := decide_eq_false (by omega)
                clear hz
                go_wp2_with fail
                go_loopw [6] (fun u wr => ∃ k : Nat, u = iv (k : Int) ∧ (k : Int) ≤ (z : Int) ∧ Hid ((10 : UInt8) ∉ t.data.toList.take k ∧ V1 = wr)) (fun u _ => z - (intOf u).toNat)
                case atStart => exact ⟨0, rfl, by omega, by simp, rfl⟩
                case round =>
                  obtain ⟨k, rfl, qk, HI⟩ := hrel
                  obtain ⟨hI, hw⟩ := HI.out
                  subst hw
                  clear HI
                  by_cases hk : k < z
                  · have q4 : (k : Int) < (z : Int) := by omega
                    have g4 : decide ((k : Int) < (z : Int)) = true := decide_eq_true q4
                    obtain ⟨x, hx⟩ : ∃ x, t.data.toList[k]? = some x := ⟨_, List.getElem?_eq_getElem (by rw [HT.out.2.1]; exact hk)⟩
                    have HXX : Hid (t.data.toList[k]? = some x) := hx
                    by_cases hxc : x = 10
                    · subst hxc
                      have hBf : B = false := HBf.out t HT.out.1 (by unfold bad; rw [decide_eq_true (List.mem_of_getElem? hx), Bool.or_true])
                      subst hBf
                      clear hx hI hk
                      go_wp2_with (with_reducible change wpList _ _ _ ({ dst := some 76, op := _, type := _, pos := _, after := _, guard := _ } :: _) _ _; refine Hid.out ?_)
                      show wpList _ _ _ _ _ _
                      refine wpList_idx rfl (.tmp 74) (.tmp 75) rfl t k 10 rfl rfl HXX.out ?_
                      go_wp2
                      go_ret
                      exact ⟨rfl, HX.out.2.2.2.2.1⟩
                    · have hne : ((x.toNat : Int) == 10) = false := by rw [beq_eq_false_iff_ne]; exact fun h => hxc (UInt8.toNat_inj.1 (by show x.toNat = 10; omega))
                      have HF : Hid ((10 : UInt8) ∉ t.data.toList.take (k + 1) ∧ k < z) := ⟨by
                        rw [List.take_add_one, hx]
                        simp only [Option.toList_some, List.mem_append, List.mem_singleton, not_or]
                        exact ⟨hI, fun h => hxc h.symm⟩, hk⟩
                      clear hx hI hk hxc
                      go_wp2_with (with_reducible change wpList _ _ _ ({ dst := some 76, op := _, type := _, pos := _, after := _, guard := _ } :: _) _ _; refine Hid.out ?_)
                      show wpList _ _ _ _ _ _
                      refine wpList_idx rfl (.tmp 74) (.tmp 75) rfl t k x rfl rfl HXX.out ?_
                      go_wp2
                      go_roundw
                      case rel => exact ⟨k + 1, by simp, by have := HF.out.2; omega, HF.out.1, by first | exact rfl | exact trivial⟩
                      case measure => have := HF.out.2; simp only [intOf]; omega
                  · have g4 : decide ((k : Int) < (z : Int)) = false := decide_eq_false (by omega)
                    have HF : Hid (∀ j u, j < i + 1 → o.ts[j]? = some u → bad u = false) := fun j u hj hu => by
                      by_cases hji : j = i
                      · subst hji
                        rw [HT.out.2.2.1] at hu
                        cases hu
                        unfold bad
                        rw [decide_eq_false (show ¬ 200 < t.size by omega), Bool.false_or, decide_eq_false_iff_not]
                        rw [List.take_of_length_le (by rw [HT.out.2.1]; omega)] at hI
                        exact hI
                      · exact HT.out.2.2.2.2 j u (by omega) hu
                    have q5 : (z : Int) ≤ (k : Int) := by omega
                    clear hI hk
                    go_wp2
                    go_roundw
                    case rel => exact ⟨i + 1, by simp, by have := HT.out.2.2.2.1; omega, HF.out, by first | exact rfl | exact trivial⟩
                    case measure => have := HT.out.2.2.2.1; simp only [intOf]; omega
            · have g1 : decide ((i : Int) < (n : Int)) = false := decide_eq_false (by omega)
              have hBt : ((uT || UL) && (dB || DL)) = B := HBt.out (fun t ht => by
                obtain ⟨j, hj, e⟩ := List.getElem_of_mem ht
                exact hI j t (by have := HS.out.1; omega) (by rw [List.getElem?_eq_getElem hj, e]))
              have q5 : (n : Int) ≤ (i : Int) := by omega
              have HL : Hid (d2 < V1.heap.size ∧ d3 < V1.heap.size) := ⟨HX.out.2.2.2.2.2.1.lt, HX.out.2.2.2.2.2.2.blk.lt⟩
              have HR : Hid (V1.rangeAt d2 0 p.cells) := HX.out.2.2.2.2.2.1.range0
              have HU : Hid (V1.rangeAt d3 2 o.up.cells) := HX.out.2.2.2.2.2.2.up
              have HDn : Hid (V1.rangeAt d3 35 o.dn.cells) := HX.out.2.2.2.2.2.2.dn
              have H52 : Hid (∀ V, Below V1.heap.size V1 V → Calls Tryd.prog 48 #[] V fun e V2 => e = .returned (.agg vTop.cells.toArray) ∧ Below V.heap.size V V2) := fun V _ => rtop_is V _ rfl
              have H53 : Hid (∀ V, Below V1.heap.size V1 V → Calls Tryd.prog 49 #[] V fun e V2 => e = .returned (.agg vBot.cells.toArray) ∧ Below V.heap.size V V2) := fun V _ => rbot_is V _ rfl
              have H51u : Hid (∀ V, Below V1.heap.size V1 V → Calls Tryd.prog 47 #[.agg p.cells.toArray, .agg o.up.cells.toArray] V fun e V2 => e = .returned (.bool UL) ∧ Below V.heap.size V V2) := fun V hV => own_is V p (HX.out.1.below hV) HX.out.2.1 o.up HV.out.1 UL HC.out.2.1
              have H51d : Hid (∀ V, Below V1.heap.size V1 V → Calls Tryd.prog 47 #[.agg p.cells.toArray, .agg o.dn.cells.toArray] V fun e V2 => e = .returned (.bool DL) ∧ Below V.heap.size V V2) := fun V hV => own_is V p (HX.out.1.below hV) HX.out.2.1 o.dn HV.out.2 DL HC.out.2.2.2
              have HUT : Hid (eqVx o.up vTop = uT) := HC.out.1
              have HDB : Hid (eqVx o.dn vBot = dB) := HC.out.2.2.1
              clear hI hi HBf HBt HC HS
              cases uT with
              | true =>
                cases dB with
                | true =>
                  simp only [Bool.true_and, Bool.false_and, Bool.and_false, Bool.and_true, Bool.true_or, Bool.or_true, Bool.or_false, Bool.false_or] at hBt
                  subst hBt
                  go_wp2_with fail
                  refine ro0 HL HR HU HDn HV H52 H53 HUT H51u HDB H51d ?_
                  intro V3 hb3
                  have HF : Hid (Below w.heap.size w V3) := below_tr HX.out.2.2.2.2.1 hb3
                  clear hb3
                  go_wp2
                  go_ret
                  exact ⟨rfl, HF.out⟩
                | false =>
                  cases DL with
                  | true =>
                    simp only [Bool.true_and, Bool.false_and, Bool.and_false, Bool.and_true, Bool.true_or, Bool.or_true, Bool.or_false, Bool.false_or] at hBt
                    subst hBt
                    go_wp2_with fail
                    refine ro1 HL HR HU HDn HV H52 H53 HUT H51u HDB H51d ?_
                    intro V3 hb3
                    have HF : Hid (Below w.heap.size w V3) := below_tr HX.out.2.2.2.2.1 hb3
                    clear hb3
                    go_wp2
                    go_ret
                    exact ⟨rfl, HF.out⟩
                  | false =>
                    simp only [Bool.true_and, Bool.false_and, Bool.and_false, Bool.and_true, Bool.true_or, Bool.or_true, Bool.or_false, Bool.false_or] at hBt
                    subst hBt
                    go_wp2_with fail
                    refine ro2 HL HR HU HDn HV H52 H53 HUT H51u HDB H51d ?_
                    intro V3 hb3
                    have HF : Hid (Below w.heap.size w V3) := below_tr HX.out.2.2.2.2.1 hb3
                    clear hb3
                    go_wp2
                    go_ret
                    exact ⟨rfl, HF.out⟩
              | false =>
                cases UL with
                | true =>
                  cases dB with
                  | true =>
                    simp only [Bool.true_and, Bool.false_and, Bool.and_false, Bool.and_true, Bool.true_or, Bool.or_true, Bool.or_false, Bool.false_or] at hBt
                    subst hBt
                    go_wp2_with fail
                    refine ro3 HL HR HU HDn HV H52 H53 HUT H51u HDB H51d ?_
                    intro V3 hb3
                    have HF : Hid (Below w.heap.size w V3) := below_tr HX.out.2.2.2.2.1 hb3
                    clear hb3
                    go_wp2
                    go_ret
                    exact ⟨rfl, HF.out⟩
                  | false =>
                    cases DL with
                    | true =>
                      simp only [Bool.true_and, Bool.false_and, Bool.and_false, Bool.and_true, Bool.true_or, Bool.or_true, Bool.or_false, Bool.false_or] at hBt
                      subst hBt
                      go_wp2_with fail
                      refine ro4 HL HR HU HDn HV H52 H53 HUT H51u HDB H51d ?_
                      intro V3 hb3
                      have HF : Hid (Below w.heap.size w V3) := below_tr HX.out.2.2.2.2.1 hb3
                      clear hb3
                      go_wp2
                      go_ret
                      exact ⟨rfl, HF.out⟩
                    | false =>
                      simp only [Bool.true_and, Bool.false_and, Bool.and_false, Bool.and_true, Bool.true_or, Bool.or_true, Bool.or_false, Bool.false_or] at hBt
                      subst hBt
                      go_wp2_with fail
                      refine ro5 HL HR HU HDn HV H52 H53 HUT H51u HDB H51d ?_
                      intro V3 hb3
                      have HF : Hid (Below w.heap.size w V3) := below_tr HX.out.2.2.2.2.1 hb3
                      clear hb3
                      go_wp2
                      go_ret
                      exact ⟨rfl, HF.out⟩
                | false =>
                  simp only [Bool.true_and, Bool.false_and, Bool.and_false, Bool.and_true, Bool.true_or, Bool.or_true, Bool.or_false, Bool.false_or] at hBt
                  subst hBt
                  go_wp2_with fail
                  refine ro6 HL HR HU HDn HV H52 H53 HUT H51u HDB H51d ?_
                  intro V3 hb3
                  have HF : Hid (Below w.heap.size w V3) := below_tr HX.out.2.2.2.2.1 hb3
                  clear hb3
                  go_wp2
                  go_ret
                  exact ⟨rfl, HF.out⟩
    · have e1 : (kd != 1) = true := by simpa using h1
      have hBf : B = false := by rw [← HB.out]; exact opB_no (by rw [hkd]; exact h1) (by rw [hkd]; exact h2)
      subst hBf
      clear h1 h2 HB hPB hkd c68
      go_wp2
      go_ret
      exact ⟨rfl, HX.out.2.2.2.2.1⟩
end Go.Proofs.YtgdecjacbkicmaaDoor.Oct
