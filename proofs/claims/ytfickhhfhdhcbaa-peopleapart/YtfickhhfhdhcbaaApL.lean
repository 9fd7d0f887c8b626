/-
  Layer 15 (people): PeopleApart.
-/
import Derived.Test.YtfickhhfhdhcbaaApr
namespace Go.Proofs.Ytfickhhfhdhcbaa.Oct
open Go.RowKit
set_option linter.unusedSimpArgs false
set_option linter.unusedVariables false

theorem wpList_eq9g {ops : Array Oper} {rest : List Oper} {o : Oper} {a : Act} {w : World} {Q : Exit → Act → World → Prop} (hw : Region.wanted o (yielded ops a.tmps) = true) (p q : Operand) (x y : Hs) (c : Bool) (hop : o.op = .binOp .eql 9 p q 9) (hx : a.eval p = hv x) (hy : a.eval q = hv y) (hc : (binOp BinOp.eql 9 (hv x) (hv y)).run Try.prog w = .ok (.bool c) w)
    (h : wpList Try.prog ops Q rest (a.put o.dst (.bool c)) w) : wpList Try.prog ops Q (o :: rest) a w := by
  refine Go.BigFrame.wpList_want hw fun K hK => ?_
  unfold Oper.wp execOp
  have hgd : (eqGuard BinOp.eql 9 p q (hv x) (hv y)).run Try.prog w = .ok () w := by
    have := Try.underlying9
    unfold hv
    first
    | (simp [eqGuard, go_sem]; done)
    | (unfold eqGuard; simp [go_sem, Try.underlying9]; done)
    | (unfold eqGuard; go_simp; done)
  simp only [hop, hx, hy, Sem.run_bind, Sem.run_pure, hgd, Result.andThen_ok, hc]
  exact hK _ _ h
theorem hx_is (x : Hs) : ∃ s : ByteArray, hv x = .string s ∧ s.size = x.length := ⟨⟨x.toArray⟩, rfl, by simp [ByteArray.size]⟩
theorem run_bs45 (s : ByteArray) (a : Option Addr) (n c : Nat) (R : Int) (W : World) : (Instr.buildSlice 45 1 #[(0, .agg #[.string s, .slice a n c, iv R])]).run Try.prog W = .ok (.slice (some ⟨W.heap.size, 0, none⟩) 1 1) (W.alloc (.cells #[.string s, .slice a n c, iv R] 42)) := by kernel_rfl
theorem info42 : ∃ (i : TypeInfo) (z : Value), Try.prog.info? 42 = some i ∧ i.zero = some z ∧ i.size = 3 ∧ i.bytes ≤ 1000 ∧ z.cells.size = 3 := by
  have h : (Try.prog.info? 42).map (fun i => (i.size, decide (i.bytes ≤ 1000), i.zero.map (·.cells.size))) = some (3, true, some 3) := by kernel_rfl
  obtain ⟨i, hi, he⟩ := Option.map_eq_some_iff.1 h
  simp only [Prod.mk.injEq] at he
  obtain ⟨z, hz, hz2⟩ := Option.map_eq_some_iff.1 he.2.2
  exact ⟨i, z, hi, hz, he.1, by simpa using he.2.1, hz2⟩
set_option maxRecDepth 100000 in
set_option maxHeartbeats 8000000 in
theorem apart_law (l : List Av) (a : Option Addr) (n cp0 : Nat) (y : Av) (s : ByteArray) (w : World) (hl : ArgA w a n cp0 l) (hy : y.ok) :
    Calls Try.prog 6 #[.slice a n cp0, .agg #[iv y.k, hv y.x, hv y.t, hv y.u, iv y.r], .string s] w fun e w' => e = .returned (.bool true) ∧ Below w.heap.size w w' := by
  have hz32 := zero32
  obtain ⟨so, hso⟩ : ∃ so, s.data.toList = so := ⟨_, rfl⟩
  have hvs : hv so = .string s := by rw [← hso]; exact hv_back s
  have HSO : Hid (hv so = .string s ∧ so.length = s.size ∧ y.ok) := ⟨hvs, by rw [← hso]; exact sz_back s, hy⟩
  obtain ⟨W0, hW0⟩ : ∃ W, w.alloc (.cells #[iv y.k, hv y.x, hv y.t, hv y.u, iv y.r] 32) = W := ⟨_, rfl⟩
  obtain ⟨g4, hg4⟩ : ∃ g, w.heap.size = g := ⟨_, rfl⟩
  have hB0 : Below w.heap.size w W0 := by rw [← hW0]; exact below_al _ _
  have h4 : Blk W0 g4 32 y.cells := by rw [← hW0, ← hg4]; exact Blk.new w _ _
  have HB0 : Hid (Below w.heap.size w W0 ∧ Blk W0 g4 32 y.cells) := ⟨hB0, h4⟩
  have HFEW := few_is l a n cp0 W0 (hl.below hB0)
  have HL : Hid (ArgA W0 a n cp0 l) := hl.below hB0
  have qn : (n : Int) ≤ 2199023255552 := by have := hl.2.1; omega
  have HLV := fun W => lives_is W
  clear hl hy hso hvs hB0 h4
  go_enter Try.func6, Try.ntmps6
  go_wp2_with fail
  refine HFEW.mono ?_
  rintro e w1 ⟨r, rfl, hb1⟩
  have HB1 : Hid (Below W0.heap.size W0 w1 ∧ Below w.heap.size w w1) := ⟨hb1, below_tr HB0.out.1 hb1⟩
  clear HFEW hb1 hW0 hg4
  cases r with
  | false =>
    have HLW := HLV w1
    go_wp2_with fail
    refine HLW.mono ?_
    rintro e w9 ⟨rfl, hb9⟩
    have HB9 : Hid (Below w.heap.size w w9) := below_tr HB1.out.2 hb9
    clear HLW hb9
    go_wp2_with fail
    go_ret
    exact ⟨rfl, HB9.out⟩
  | true =>
    by_cases hlen : (1000 : Int) < (s.size : Int)
    · skip
      have HLW := HLV w1
      go_wp2_with fail
      refine HLW.mono ?_
      rintro e w9 ⟨rfl, hb9⟩
      have HB9 : Hid (Below w.heap.size w w9) := below_tr HB1.out.2 hb9
      clear HLW hb9
      go_wp2_with fail
      go_ret
      exact ⟨rfl, HB9.out⟩
    · obtain ⟨sx, hsx, nsx⟩ := hx_is y.x
      obtain ⟨st, hst, nst⟩ := hx_is y.t
      obtain ⟨su, hsu, nsu⟩ := hx_is y.u
      have c1 : w1.cell? ⟨g4, 1, none⟩ = some (.string sx) := by rw [← hsx]; exact (HB0.out.2.below HB1.out.1 HB0.out.2.lt).cell rfl
      have c2 : w1.cell? ⟨g4, 2, none⟩ = some (.string st) := by rw [← hst]; exact (HB0.out.2.below HB1.out.1 HB0.out.2.lt).cell rfl
      have c3 : w1.cell? ⟨g4, 3, none⟩ = some (.string su) := by rw [← hsu]; exact (HB0.out.2.below HB1.out.1 HB0.out.2.lt).cell rfl
      have HXS : Hid (hv y.x = .string sx ∧ so.length ≤ 1000) := ⟨hsx, by have := HSO.out.2.1; omega⟩
      obtain ⟨ns, hns⟩ : ∃ n, s.size = n := ⟨_, rfl⟩
      have hd : decide ((1000 : Int) < (ns : Int)) = false := by rw [← hns]; exact decide_eq_false hlen
      clear hsx hst hsu
      go_wp2_with (with_reducible change wpList _ _ _ ({ dst := some 30, op := _, type := _, pos := _, after := _, guard := _ } :: _) _ _; refine Hid.out ?_)
      show wpList _ _ _ _ _ _
      by_cases hyx : y.x = so
      · refine wpList_eq9g rfl (.tmp 28) (.tmp 29) y.x so true rfl HXS.out.1.symm HSO.out.1.symm (by rw [hyx]; exact eql9 _ _) ?_
        simp only [Act.put, List.setIfInBounds_toArray, List.set_cons_zero, List.set_cons_succ]
        clear hyx
        have HLW := HLV w1
        go_wp2_with fail
        refine HLW.mono ?_
        rintro e w9 ⟨rfl, hb9⟩
        have HB9 : Hid (Below w.heap.size w w9) := below_tr HB1.out.2 hb9
        clear HLW hb9
        go_wp2_with fail
        go_ret
        exact ⟨rfl, HB9.out⟩
      · refine wpList_eq9g rfl (.tmp 28) (.tmp 29) y.x so false rfl HXS.out.1.symm HSO.out.1.symm (ne9 _ _ hyx _) ?_
        simp only [Act.put, List.setIfInBounds_toArray, List.set_cons_zero, List.set_cons_succ]
        have HYX : Hid (so ≠ y.x) := fun e => hyx e.symm
        have z1 : (sx.size : Int) ≤ 140737488355328 := by have := HSO.out.2.2.1; omega
        have z2 : (st.size : Int) ≤ 140737488355328 := by have := HSO.out.2.2.2.1; omega
        have z3 : (su.size : Int) ≤ 140737488355328 := by have := HSO.out.2.2.2.2; omega
        obtain ⟨n1, hn1⟩ : ∃ n, sx.size = n := ⟨_, rfl⟩
        obtain ⟨n2, hn2⟩ : ∃ n, st.size = n := ⟨_, rfl⟩
        obtain ⟨n3, hn3⟩ : ∃ n, su.size = n := ⟨_, rfl⟩
        rw [hn1] at z1 nsx
        rw [hn2] at z2 nst
        rw [hn3] at z3 nsu
        clear hyx nsx nst nsu
        by_cases hsum : (1000 : Int) < (n1 : Int) + n2 + n3
        · skip
          have HLW := HLV w1
          go_wp2_with fail
          refine HLW.mono ?_
          rintro e w9 ⟨rfl, hb9⟩
          have HB9 : Hid (Below w.heap.size w w9) := below_tr HB1.out.2 hb9
          clear HLW hb9
          go_wp2_with fail
          go_ret
          exact ⟨rfl, HB9.out⟩
        · have HNEW := new_is w1
          go_wp2_with fail
          refine HNEW.mono ?_
          rintro e w2 ⟨rfl, hq0, hb2⟩
          obtain ⟨p, hp⟩ : ∃ p, w1.heap.size + 1 + 1 = p := ⟨_, rfl⟩
          rw [hp] at hq0 ⊢
          have HO0 : Hid (PB W0.heap.size w2 p (Pm0 w1.heap.size) ∧ Sh (Pm0 w1.heap.size) ∧ Below W0.heap.size W0 w2) := by
            have h1 := HB1.out.1.size
            have h2 := hb2.size
            refine ⟨⟨hq0, fun k hk => ?_, by omega⟩, Sh.zero _, below_tr HB1.out.1 hb2⟩
            simp [Pm.bl, Pm.hp, Pm0] at hk
            omega
          clear HNEW hq0 hb2 hp c1 c2 c3 hlen hsum hd z1 z2 z3 hn1 hn2 hn3 hns
          go_wp2
          go_loopw [50] (fun u W => ∃ (i : Nat) (M : Pm), u = iv i ∧ Hid (i ≤ n ∧ PB W0.heap.size W p M ∧ Sh M ∧ Below W0.heap.size W0 W)) (fun u _ => n - (intOf u).toNat)
          case atStart => exact ⟨0, _, rfl, Nat.zero_le _, HO0.out⟩
          case round =>
            obtain ⟨i, M, rfl, HI⟩ := hrel
            by_cases hi : i = n
            · have q1 : (n : Int) ≤ (i : Int) := by omega
              clear hi
              have HP : Hid (PB W0.heap.size wr p M ∧ Sh M ∧ Below W0.heap.size W0 wr ∧ so.length ≤ 140737488355328) := ⟨HI.out.2.1, HI.out.2.2.1, HI.out.2.2.2, by have := HXS.out.2; omega⟩
              have HME := members_up HP.out.1.1 so HP.out.2.2.2
              rw [HSO.out.1] at HME
              go_wp2_with fail
              refine HME.mono ?_
              rintro e V1 ⟨am, nm, cm, rfl, HM1⟩
              have HTE := teams_up (HP.out.1.1.below HM1.out.2.2.1) so HP.out.2.2.2
              rw [HSO.out.1] at HTE
              clear HME
              go_wp2_with fail
              refine HTE.mono ?_
              rintro e V2 ⟨ate, nte, cte, rfl, HT2⟩
              have h02 : Below wr.heap.size wr V2 := below_tr HM1.out.2.2.1 HT2.out.2.2.1
              have HUS := users_up (HP.out.1.1.below h02)
              clear HTE
              go_wp2_with fail
              refine HUS.mono ?_
              rintro e V3 ⟨au, nu, cu, rfl, HU3⟩
              have h03 : Below wr.heap.size wr V3 := below_tr h02 HU3.out.2.2.1
              have H3 : Hid (PB W0.heap.size V3 p M ∧ Below W0.heap.size W0 V3 ∧ Below wr.heap.size wr V3 ∧ (StrAt V3 am nm (membersL M so) ∧ nm ≤ 64 ∧ Up wr.heap.size am nm) ∧ (StrAt V3 ate nte (teamsL M so) ∧ nte ≤ 8 ∧ Up wr.heap.size ate nte) ∧ (StrAt V3 au nu (usersL M) ∧ nu ≤ 64 ∧ Up wr.heap.size au nu)) := by
                have s1 := HM1.out.2.2.1.size
                have s2 := HT2.out.2.2.1.size
                refine ⟨⟨HP.out.1.1.below h03, HP.out.1.2.1, Nat.le_trans HP.out.1.2.2 h03.size⟩, below_tr HP.out.2.2.1 h03, h03, ⟨HM1.out.1.below (below_tr HT2.out.2.2.1 HU3.out.2.2.1), HM1.out.2.1, HM1.out.2.2.2⟩, ⟨HT2.out.1.below HU3.out.2.2.1, HT2.out.2.1, fun hp => ?_⟩, ⟨HU3.out.1, HU3.out.2.1, fun hp => ?_⟩⟩
                · obtain ⟨g, e, hg⟩ := HT2.out.2.2.2 hp
                  exact ⟨g, e, by omega⟩
                · obtain ⟨g, e, hg⟩ := HU3.out.2.2.2 hp
                  exact ⟨g, e, by omega⟩
              have qu : (nu : Int) ≤ 64 := by have := HU3.out.2.1; omega
              have HW0 : Hid (WI V3 V3 M so (usersL M) (.slice none 0 0) 0 []) := ⟨rfl, by simpa [wasC] using Ow.nil V3 42 3, (fun j u r hu hr => by simp at hr), Below.refl _ _, (fun g hg => by cases hg)⟩
              have HM0 : Hid (∀ k ∈ M.bl p, k < wr.heap.size) := HP.out.1.1.hp.lt
              obtain ⟨wo, hwo⟩ : ∃ wo, wr = wo := ⟨_, rfl⟩
              clear HUS h02 h03 HM1 HT2 HU3
              rw [hwo] at HP H3 HM0
              clear hwo HI
              go_wp2
              go_loopw [67, 12] (fun u v W => ∃ (k : Nat) (rs : List (Option Addr × Nat × Nat)) (av : Option Addr) (cv : Nat), u = iv k ∧ v = .slice av k cv ∧ Hid (k ≤ nu ∧ WI V3 W M so (usersL M) (.slice av k cv) k rs)) (fun u _ _ => nu - (intOf u).toNat)
              case atStart => exact ⟨0, [], none, 0, rfl, rfl, Nat.zero_le _, HW0.out⟩
              case round =>
                obtain ⟨k, rs, av, cv, rfl, rfl, HK⟩ := hrel
                by_cases hk : k = nu
                · have q2 : (nu : Int) ≤ (k : Int) := by omega
                  have HUS := users_up (H3.out.1.1.below HK.out.2.bel)
                  have HKN : Hid (k = nu) := hk
                  clear hk
                  go_wp2_with fail
                  refine HUS.mono ?_
                  rintro e V5 ⟨au5, nu5, cu5, rfl, HU5⟩
                  have h35 : Below V3.heap.size V3 V5 := below_tr HK.out.2.bel HU5.out.2.2.1
                  obtain rfl : nu5 = nu := by have h1 := HU5.out.1.1; have h2 := H3.out.2.2.2.2.2.1.1; omega
                  have H5 : Hid (PB W0.heap.size V5 p M ∧ Below W0.heap.size W0 V5 ∧ WI V3 V5 M so (usersL M) (.slice av k cv) k rs ∧ StrAt V5 au5 nu5 (usersL M) ∧ Up wo.heap.size au5 nu5 ∧ StrAt V5 am nm (membersL M so) ∧ StrAt V5 ate nte (teamsL M so)) := by
                    have s1 := HK.out.2.bel.size
                    have s2 := H3.out.2.2.1.size
                    refine ⟨⟨H3.out.1.1.below h35, H3.out.1.2.1, Nat.le_trans H3.out.1.2.2 h35.size⟩, below_tr H3.out.2.1 h35, HK.out.2.below HU5.out.2.2.1, HU5.out.1, fun hp => ?_, H3.out.2.2.2.1.1.below h35, H3.out.2.2.2.2.1.1.below h35⟩
                    obtain ⟨g, e, hg⟩ := HU5.out.2.2.2 hp
                    exact ⟨g, e, by omega⟩
                  have H45 : Blk V5 g4 32 y.cells := HB0.out.2.below H5.out.2.1 HB0.out.2.lt
                  have HG4 : Hid (Blk V5 g4 32 y.cells) := H45
                  clear HUS h35 H45 HU5
                  go_wp2_with (with_reducible change wpList _ _ _ ({ dst := some 82, op := _, type := _, pos := _, after := _, guard := _ } :: _) _ _; refine Hid.out ?_)
                  show wpList _ _ _ _ _ _
                  refine wpList_load_want rfl 32 (.tmp 4) rfl g4 0 rfl y.cells _ (by have := HG4.out.range 0 5; simpa [Av.cells] using this) Try.underlying32 rfl size32 ?_
                  simp only [Act.put, List.setIfInBounds_toArray, List.set_cons_zero, List.set_cons_succ]
                  have HDO : Calls Try.prog 11 #[.pointer (some ⟨p, 0, none⟩), .agg y.cells.toArray] V5 fun e w' => e = .returned (iv (doE M y)) ∧ ∃ M', PAfter V5 p M M' w' ∧ Hid (Did M y M') := do_is H5.out.1.1 y HSO.out.2.2
                  go_wp2_with fail
                  refine HDO.mono ?_
                  rintro e V6 ⟨rfl, M6, ha6, hd6⟩
                  have H6 : Hid (PB W0.heap.size V6 p M6 ∧ Sh M6 ∧ Below W0.heap.size W0 V6 ∧ StrAt V6 au5 nu5 (usersL M) ∧ StrAt V6 am nm (membersL M so) ∧ StrAt V6 ate nte (teamsL M so)) := by
                    obtain ⟨h1, h2⟩ := ha6.toB H5.out.1
                    have hS : ∀ g, wo.heap.size ≤ g → ¬ g ∈ M.bl p := fun g hg e => by have := HM0.out g e; omega
                    exact ⟨h1, hd6.out.sh HP.out.2.1 HSO.out.2.2, H5.out.2.1.trans h2, H5.out.2.2.2.1.keepU H5.out.2.2.2.2.1 ha6.2.2 hS, H5.out.2.2.2.2.2.1.keepU H3.out.2.2.2.1.2.2 ha6.2.2 hS, H5.out.2.2.2.2.2.2.keepU H3.out.2.2.2.2.1.2.2 ha6.2.2 hS⟩
                  have HWA : Hid (Ow V6 42 3 (.slice av k cv) k (wasC M so (usersL M) rs) ∧ ∀ (j : Nat) (u : Hs) (r : Option Addr × Nat × Nat), (usersL M)[j]? = some u → rs[j]? = some r → StrAt V6 r.1 r.2.1 (subT M so u) ∧ r.2.1 ≤ 8) := by
                    have s1 := H3.out.2.2.1.size
                    refine ⟨H5.out.2.2.1.ow.same fun g hg => ha6.2.2.block g (H5.out.2.2.1.ow.lt hg) (fun e => ?_), fun j u r hu hr => ?_⟩
                    · have h1 := HM0.out g e
                      have h2 := H5.out.2.2.1.vb g hg
                      omega
                    · obtain ⟨e1, e2, e3, _⟩ := H5.out.2.2.1.each j u r hu hr
                      exact ⟨e1.keepU e3 ha6.2.2 (fun g hg e => by have := HM0.out g e; omega), e2⟩
                  have HSA : Hid (membersL M6 so = membersL M so ∧ teamsL M6 so = teamsL M so ∧ (∀ u, subT M6 so u = subT M so u) ∧ ∀ u, subR M6 so u = subR M so u) := told_same (hd6.out.org HYX.out)
                  have HRL : Hid (rs.length = nu5 ∧ k = nu5) := ⟨by rw [H5.out.2.2.1.rl]; exact HKN.out, HKN.out⟩
                  clear HDO ha6 hd6
                  go_wp2
                  go_loopw [86] (fun u W => ∃ (j : Nat), u = iv j ∧ Hid (j ≤ nu5 ∧ Below V6.heap.size V6 W)) (fun u _ => nu5 - (intOf u).toNat)
                  case atStart => exact ⟨0, rfl, Nat.zero_le _, Below.refl _ _⟩
                  case round =>
                    obtain ⟨j, rfl, HJ⟩ := hrel
                    by_cases hj : j = nu5
                    · have q3 : (nu5 : Int) ≤ (j : Int) := by omega
                      have HME := members_at (H6.out.1.1.below HJ.out.2) so HP.out.2.2.2 HSA.out.1 H6.out.2.2.2.2.1.1
                      rw [HSO.out.1] at HME
                      clear hj
                      go_wp2_with fail
                      refine HME.mono ?_
                      rintro e V8 ⟨a8, c8, rfl, HM8⟩
                      have h68 : Below V6.heap.size V6 V8 := below_tr HJ.out.2 HM8.out.2
                      have HTX := texts_same (c := c8) (d := cm) HM8.out.1 (H6.out.2.2.2.2.1.below h68) (by have := H3.out.2.2.2.1.2.1; omega)
                      have H68 : Hid (Below V6.heap.size V6 V8) := h68
                      clear HME h68
                      go_wp2_with fail
                      refine HTX.mono ?_
                      rintro e V9 ⟨rfl, hb9⟩
                      have H69 : Hid (Below V6.heap.size V6 V9) := below_tr H68.out hb9
                      have HTE := teams_at (H6.out.1.1.below H69.out) so HP.out.2.2.2 HSA.out.2.1 H6.out.2.2.2.2.2.1
                      rw [HSO.out.1] at HTE
                      clear HTX hb9
                      go_wp2_with fail
                      refine HTE.mono ?_
                      rintro e V10 ⟨a10, c10, rfl, HM10⟩
                      have H610 : Hid (Below V6.heap.size V6 V10) := below_tr H69.out HM10.out.2
                      have HTX := texts_same (c := c10) (d := cte) HM10.out.1 (H6.out.2.2.2.2.2.below H610.out) (by have := H3.out.2.2.2.2.1.2.1; omega)
                      clear HTE
                      go_wp2_with fail
                      refine HTX.mono ?_
                      rintro e V11 ⟨rfl, hb11⟩
                      have H611 : Hid (Below w.heap.size w V11) := below_tr HB0.out.1 (below_tr H6.out.2.2.1 (below_tr H610.out hb11))
                      clear HTX hb11
                      have HLW := HLV V11
                      go_wp2_with fail
                      refine HLW.mono ?_
                      rintro e w9 ⟨rfl, hb9⟩
                      have HB9 : Hid (Below w.heap.size w w9) := below_tr H611.out hb9
                      clear HLW hb9
                      go_wp2_with fail
                      go_ret
                      exact ⟨rfl, HB9.out⟩
                    · have HJQ : Hid (j < nu5) := by have := HJ.out.1; show _ < _; omega
                      have q3 : (j : Int) < (nu5 : Int) := by have := HJQ.out; omega
                      have q4 : j < nu5 := HJQ.out
                      obtain ⟨gu, u, hau, hu, hc⟩ := str_at (H6.out.2.2.2.1.below HJ.out.2) q4
                      subst hau
                      obtain ⟨r, hr⟩ : ∃ r, rs[j]? = some r := ⟨_, List.getElem?_eq_getElem (by rw [HRL.out.1]; exact q4)⟩
                      obtain ⟨gv, hav, _, hgl, hrg⟩ : ∃ g, av = some ⟨g, 0, none⟩ ∧ (Value.slice av k cv).ownBlock = some g ∧ g < V6.heap.size ∧ V6.rangeAt g 0 (wasC M so (usersL M) rs) := by
                        obtain ⟨a', c', e', _, _, _, h5⟩ := HWA.out.1.read
                        cases e'
                        exact h5 (by have := HRL.out.2; omega)
                      subst hav
                      have hel : ((usersL M).zip rs)[j]? = some (u, r) := by rw [List.getElem?_zip_eq_some]; exact ⟨hu, hr⟩
                      have hrx : V6.rangeAt gv (0 + j * 3) (subC M so (u, r)) := fun t v ht => by
                        have := hrg (j * 3 + t) v (flat3 (fun _ => rfl) hel t v ht)
                        rw [show 0 + j * 3 + t = 0 + (j * 3 + t) by omega]
                        exact this
                      obtain ⟨ra, rn, rc⟩ := r
                      have HEA := HWA.out.2 j u (ra, rn, rc) hu hr
                      have HPI : Hid (PAt wr p M6 ∧ Sh M6 ∧ so.length ≤ 140737488355328 ∧ u.length ≤ 140737488355328) := ⟨H6.out.1.1.below HJ.out.2, H6.out.2.1, HP.out.2.2.2, HP.out.2.1.1 u (by have := List.mem_of_getElem? hu; unfold usersL at this; rwa [sortK_mem] at this)⟩
                      obtain ⟨R, hR⟩ : ∃ R, subR M so u = R := ⟨_, rfl⟩
                      have HPL : Hid (subT M6 so u = subT M so u ∧ (subT M so u).length = rn ∧ subR M6 so u = R) := ⟨HSA.out.2.2.1 u, HEA.1.1, by rw [HSA.out.2.2.2 u, hR]⟩
                      have HIX : Hid ((j : Int) < (k : Int) ∧ j < k) := by have := HRL.out.2; exact ⟨by omega, by omega⟩
                      have HX : Hid (wr.rangeAt gv (0 + j * 3) [hv u, .slice ra rn rc, iv R] ∧ gv < wr.heap.size ∧ StrAt wr ra rn (subT M so u) ∧ rn ≤ 1000000) := by
                        have h1 : subC M so (u, (ra, rn, rc)) = [hv u, .slice ra rn rc, iv R] := by unfold subC; rw [hR]
                        rw [h1] at hrx
                        exact ⟨rangeAt_same hrx (HJ.out.2.block gv hgl), Nat.lt_of_lt_of_le hgl HJ.out.2.size, HEA.1.below HJ.out.2, by have := HEA.2; simp only at this; omega⟩
                      have hvs := HSO.out.1
                      clear hj hu hr hgl hrg hel hrx HEA hR
                      go_wp2_with fail
                      rw [← hvs]
                      clear hvs
                      refine ap21 HPI HPL HIX HX ?_
                      intro V9 a9 c9 hV9
                      have HF : Hid (Below V6.heap.size V6 V9) := below_tr HJ.out.2 hV9
                      clear hV9 hc
                      rw [HSO.out.1]
                      go_wp2
                      go_roundw
                      case rel => exact ⟨j + 1, by simp, HJQ.out, HF.out⟩
                      case measure =>
                        have := HJQ.out
                        simp only [intOf]
                        omega
                · have HKQ : Hid (k < nu) := by have := HK.out.1; show _ < _; omega
                  have q2 : (k : Int) < (nu : Int) := by have := HKQ.out; omega
                  have q3 : k < nu := HKQ.out
                  obtain ⟨gu, u, hau, hu, hc⟩ := str_at (H3.out.2.2.2.2.2.1.below HK.out.2.bel) q3
                  subst hau
                  have HU : Hid ((usersL M)[k]? = some u) := hu
                  have HSU := sub_up (H3.out.1.1.below HK.out.2.bel) HP.out.2.1 so u HP.out.2.2.2 (HP.out.2.1.1 u (by have := List.mem_of_getElem? hu; unfold usersL at this; rwa [sortK_mem] at this))
                  rw [HSO.out.1] at HSU
                  clear hk hu
                  go_wp2_with fail
                  refine HSU.mono ?_
                  rintro e V5 ⟨a5, n5, c5, rfl, HS5⟩
                  obtain ⟨R, hR⟩ : ∃ R, subR M so u = R := ⟨_, rfl⟩
                  have HRR : Hid (subR M so u = R) := hR
                  rw [hR]
                  have H5 : Hid (WI V3 V5 M so (usersL M) (.slice av k cv) k rs) := HK.out.2.below HS5.out.2.2.1
                  obtain ⟨bu, hbu⟩ : ∃ bu : ByteArray, hv u = .string bu := ⟨_, rfl⟩
                  have HBU : Hid (hv u = .string bu) := hbu
                  rw [hbu]
                  rw [hbu] at hc
                  have hbs := run_bs45 bu a5 n5 c5 R
                  obtain ⟨i0, z0, hi0, hz0, hs0, hby0, hzs0⟩ := info42
                  have HI0 : Hid (Try.prog.info? 42 = some i0 ∧ i0.zero = some z0 ∧ i0.size = 3 ∧ i0.bytes ≤ 1000 ∧ z0.cells.size = 3) := ⟨hi0, hz0, hs0, hby0, hzs0⟩
                  clear HSU hR hbu hi0 hz0 hs0 hby0 hzs0
                  go_wp2_with (with_reducible change wpList _ _ _ ({ dst := some 77, op := _, type := _, pos := _, after := _, guard := _ } :: _) _ _; refine Hid.out ?_)
                  show wpList _ _ _ _ _ _
                  refine wpList_append_ow rfl (.tmp 71) (.tmp 76) 45 rfl _ 42 i0 z0 3 Try.underlying45 HI0.out.1 HI0.out.2.1 HI0.out.2.2.1 HI0.out.2.2.2.1 HI0.out.2.2.2.2 (by omega) (.slice av k cv) k (wasC M so (usersL M) rs) (H5.out.ow.below (below_al V5 _)) V5.heap.size 1 1 [.string bu, .slice a5 n5 c5, iv R] rfl rfl rfl (by have := (Blk.new V5 #[.string bu, .slice a5 n5 c5, iv R] 42).range 0 3; simpa using this) (by intro v hv'; simp at hv'; rcases hv' with rfl | rfl | rfl <;> rfl) (by omega) (by have h1 := H3.out.2.2.2.2.2.2.1; have h2 := HKQ.out; omega) ?_
                  intro v6 w6 ho6 hg6 hb6
                  simp only [Act.put, List.setIfInBounds_toArray, List.set_cons_zero, List.set_cons_succ]
                  obtain ⟨a6, c6, hv6, _⟩ := ho6.out.read
                  subst hv6
                  have HF : Hid (WI V3 w6 M so (usersL M) (.slice a6 (k + 1) c6) (k + 1) (rs ++ [(a5, n5, c5)])) := by
                    have h := H5.out
                    have hal : Below V5.heap.size V5 (V5.alloc (.cells #[.string bu, .slice a5 n5 c5, iv R] 42)) := below_al _ _
                    have hsz : (V5.alloc (.cells #[.string bu, .slice a5 n5 c5, iv R] 42)).heap.size = V5.heap.size + 1 := by simp
                    obtain ⟨g', hg', hgo⟩ := hb6.out
                    have kg : Keep (fun j => (Value.slice av k cv).ownBlock = some j) (V5.alloc (.cells #[.string bu, .slice a5 n5 c5, iv R] 42)) w6 := Keep.grownO hg6.out (fun b' e => e)
                    have k5 : Keep (fun j => (Value.slice av k cv).ownBlock = some j) V5 w6 := (Keep.below hal).trans kg (fun _ hj _ => hj)
                    have s3 := h.bel.size
                    have hcs : subC M so (u, (a5, n5, c5)) = [.string bu, .slice a5 n5 c5, iv R] := by unfold subC; rw [HRR.out, HBU.out]
                    have hV5 : V3.heap.size ≤ V5.heap.size := s3
                    refine ⟨by simp [h.rl], ?_, ?_, ?_, ?_⟩
                    · rw [wasC_snoc M so (u := u) (by rw [h.rl]; exact HU.out), hcs]
                      exact ho6.out
                    · intro j u' r hu' hr
                      have vne : ∀ g, (Value.slice a6 (k + 1) c6).ownBlock = some g → (Value.slice av k cv).ownBlock = some g ∨ g = V5.heap.size + 1 := fun g hg => by
                        rw [hg'] at hg
                        cases hg
                        rcases hgo with e | e
                        · exact .inl e
                        · exact .inr (by omega)
                      rw [List.getElem?_append] at hr
                      split at hr
                      · obtain ⟨e1, e2, e3, e4⟩ := h.each j u' r hu' hr
                        refine ⟨⟨e1.1, fun hp => ?_⟩, e2, e3, fun hp g hg e => ?_⟩
                        · obtain ⟨g, ea, hl, hcell⟩ := e1.2 hp
                          exact ⟨g, ea, Nat.lt_of_lt_of_le hl k5.size, fun i x hx => (World.cell?_of_block (a := ⟨g, i, none⟩) (k5.block g hl (e4 hp g ea))).trans (hcell i x hx)⟩
                        · rcases vne g e with e' | e'
                          · exact e4 hp g hg e'
                          · obtain ⟨g2, ea, hl, _⟩ := e1.2 hp
                            rw [ea] at hg
                            cases hg
                            omega
                      · rename_i hjl
                        have hj : j = k := by
                          have h1 := (List.getElem?_eq_some_iff.1 hr).1
                          have h2 := h.rl
                          simp at h1
                          omega
                        subst hj
                        rw [h.rl] at hr
                        simp at hr
                        subst hr
                        rw [HU.out] at hu'
                        cases hu'
                        have hs := HS5.out
                        have s5 := hs.2.2.1.size
                        have apn : ∀ g, a5 = some ⟨g, 0, none⟩ → 0 < n5 → (Value.slice av j cv).ownBlock ≠ some g := fun g hg hp e => by
                          obtain ⟨g2, ea, hB⟩ := hs.2.2.2 hp
                          rw [hg] at ea
                          cases ea
                          have := HK.out.2.ow.lt e
                          omega
                        refine ⟨⟨hs.1.1, fun hp => ?_⟩, hs.2.1, fun hp => ?_, fun hp g hg e => ?_⟩
                        · obtain ⟨g, ea, hl, hcell⟩ := hs.1.2 hp
                          exact ⟨g, ea, Nat.lt_of_lt_of_le hl k5.size, fun i x hx => (World.cell?_of_block (a := ⟨g, i, none⟩) (k5.block g hl (apn g ea hp))).trans (hcell i x hx)⟩
                        · obtain ⟨g, ea, hB⟩ := hs.2.2.2 hp
                          exact ⟨g, ea, by have := HK.out.2.bel.size; omega⟩
                        · rcases vne g e with e' | e'
                          · exact apn g hg hp e'
                          · obtain ⟨g2, ea, hl, _⟩ := hs.1.2 hp
                            rw [ea] at hg
                            cases hg
                            omega
                    · exact h.bel.trans (k5.toBelow s3 (fun g hg => h.vb g hg))
                    · intro g hg
                      rw [hg'] at hg
                      cases hg
                      rcases hgo with e | e
                      · exact h.vb _ e
                      · omega
                  clear ho6 hg6 hb6 hbs hc
                  go_wp2
                  go_roundw
                  case rel => exact ⟨k + 1, rs ++ [(a5, n5, c5)], a6, c6, by simp, rfl, HKQ.out, HF.out⟩
                  case measure =>
                    have := HKQ.out
                    simp only [intOf]
                    omega
            · have HQ : Hid (i < n) := by have := HI.out.1; show _ < _; omega
              have q1 : (i : Int) < (n : Int) := by have := HQ.out; omega
              have q2 : i < n := HQ.out
              obtain ⟨ab, off, ha, hbl, hc⟩ := HL.out.2.2.2 (by omega)
              subst ha
              obtain ⟨x, hx⟩ : ∃ x, l[i]? = some x := ⟨_, List.getElem?_eq_getElem (by rw [HL.out.1]; exact q2)⟩
              have hr : wr.rangeAt ab (off + i * 5) x.cells := rangeAt_same (hc i x hx) (HI.out.2.2.2.block ab hbl)
              have HR : Hid (wr.rangeAt ab (off + i * 5) x.cells) := hr
              have HOK : Hid (x.ok) := HL.out.2.2.1 x (List.mem_of_getElem? hx)
              clear hi hc hx hbl hr
              go_wp2_with (with_reducible change wpList _ _ _ ({ dst := some 53, op := _, type := _, pos := _, after := _, guard := _ } :: _) _ _; refine Hid.out ?_)
              show wpList _ _ _ _ _ _
              refine wpList_load_want rfl 32 (.tmp 52) rfl ab (off + i * 5) rfl x.cells _ HR.out Try.underlying32 rfl size32 ?_
              simp only [Act.put, List.setIfInBounds_toArray, List.set_cons_zero, List.set_cons_succ]
              obtain ⟨g5, hg5⟩ : ∃ g, wr.heap.size = g := ⟨_, rfl⟩
              go_wp2_with (with_reducible change wpList _ _ _ ({ dst := none, op := Op.store 32 _ _, type := _, pos := _, after := _, guard := _ } :: _) _ _; refine Hid.out ?_)
              show wpList _ _ _ _ _ _
              refine wpList_store_blk rfl 32 (.tmp 9) (.tmp 53) rfl g5 0 32 [iv 0, .string ⟨#[]⟩, .string ⟨#[]⟩, .string ⟨#[]⟩, iv 0] x.cells rfl rfl (by rw [← hg5]; exact Blk.new wr _ _) (by simp [Av.cells]) size32 (Av.one x) ?_
              intro V1 hb5' hg6
              have hV : Below wr.heap.size wr V1 := (below_al wr _).grown hg6.out (below_al wr _).size (fun j hj => by cases hj; omega)
              have H1 : Hid (PB W0.heap.size V1 p M ∧ Below W0.heap.size W0 V1 ∧ Blk V1 g5 32 x.cells ∧ g5 ∉ M.bl p ∧ W0.heap.size ≤ g5) := by
                have h := HI.out.2.1
                have h1 := hV.size
                exact ⟨⟨h.1.below hV, h.2.1, by have := h.2.2; omega⟩, below_tr HI.out.2.2.2 hV, hb5'.out, fun e => by have := h.1.hp.lt _ e; omega, by have := h.2.2; omega⟩
              clear hb5' hg6 hV hg5 HR
              go_wp2_with (with_reducible change wpList _ _ _ ({ dst := some 55, op := _, type := _, pos := _, after := _, guard := _ } :: _) _ _; refine Hid.out ?_)
              show wpList _ _ _ _ _ _
              refine wpList_load_want rfl 32 (.tmp 9) rfl g5 0 rfl x.cells _ (by have := H1.out.2.2.1.range 0 5; simpa [Av.cells] using this) Try.underlying32 rfl size32 ?_
              simp only [Act.put, List.setIfInBounds_toArray, List.set_cons_zero, List.set_cons_succ]
              have HDO : Calls Try.prog 11 #[.pointer (some ⟨p, 0, none⟩), .agg x.cells.toArray] V1 fun e w' => e = .returned (iv (doE M x)) ∧ ∃ M', PAfter V1 p M M' w' ∧ Hid (Did M x M') := do_is H1.out.1.1 x HOK.out
              go_wp2_with fail
              refine HDO.mono ?_
              rintro e V2 ⟨rfl, M2, ha2, hd2⟩
              have H2 : Hid (PB W0.heap.size V2 p M2 ∧ Sh M2 ∧ Below W0.heap.size W0 V2) := by
                obtain ⟨h1, h2⟩ := ha2.toB H1.out.1
                exact ⟨h1, hd2.out.sh HI.out.2.2.1 HOK.out, H1.out.2.1.trans h2⟩
              clear HDO ha2 hd2
              go_wp2
              go_roundw
              case rel => exact ⟨i + 1, M2, by simp, HQ.out, H2.out⟩
              case measure =>
                have := HQ.out
                simp only [intOf]
                omega
#print axioms apart_law
end Go.Proofs.Ytfickhhfhdhcbaa.Oct
