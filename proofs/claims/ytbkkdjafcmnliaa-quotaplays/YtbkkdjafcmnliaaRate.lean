/-
  Layer 18 (quota): the law QuotaRate.
-/
import Derived.Test.YtbkkdjafcmnliaaRatePure
namespace Go.Proofs.Ytbkkdjafcmnliaa.Oct
open Go.RowKit
variable {w : World}

/-- what the law's loop keeps -/
structure RInv (W0 wr : World) (p B len : Nat) (r n : Int) (v : Value) (xs : List Int) (M : Mt) (i : Nat) : Prop where
  ile : i ≤ len
  few : i ≤ 201
  xle : xs.length ≤ i
  st : St W0 wr p M
  mr : M.r = r
  mn : M.n = n
  hts : Hts M xs
  row : Bs 3 1 B wr v xs.length (xs.map iv)
  pB : p < B
  Bw : B ≤ wr.heap.size
theorem bs_kept {e sz B tt : Nat} {w w' : World} {v : Value} {n p : Nat} {cs L : List Value} (h : Bs e sz B w v n cs) (hg : w.grownBy w' (some p)) (hp : p < B) (hb : Blk w p tt L) (hne : e ≠ tt) : Bs e sz B w' v n cs := by
  rcases h with ⟨a, rfl, h, h0⟩ | ⟨h1, h⟩
  · refine .inl ⟨a, rfl, ⟨h.1, h.2.1, fun hq => ?_⟩, h0⟩
    obtain ⟨g, off, rfl, h3, h4⟩ := h.2.2 hq
    have hgp : g ≠ p := fun e1 => by
      subst e1
      obtain ⟨cs', fr, h5⟩ := h3
      have := hb.symm.trans h5
      simp at this
      exact hne this.2.1.symm
    have hs := hg.block g h3.lt (by simpa using hgp)
    exact ⟨g, off, rfl, h3.same hs, fun j u hu => (World.cell?_of_block (a := ⟨g, off + j, none⟩) hs).trans (h4 j u hu)⟩
  · refine .inr ⟨h1, h.1, ?_⟩
    rcases h.2 with hn | ⟨g, cap, cur, rfl, hB, hbk, hr⟩
    · exact .inl hn
    · exact .inr ⟨g, cap, cur, rfl, hB, (hg.block g (lt_of_block hbk) (by simp; omega)).trans hbk, hr⟩
theorem bs_al {e sz B : Nat} {w : World} {v : Value} {n : Nat} {cs : List Value} (h : Bs e sz B w v n cs) (o : Obj) : Bs e sz B (w.alloc o) v n cs := by
  rcases h with ⟨a, rfl, h, h0⟩ | ⟨h1, h⟩
  · exact .inl ⟨a, rfl, h.below (below_al w o) (Nat.le_refl _), h0⟩
  · refine .inr ⟨h1, h.1, ?_⟩
    rcases h.2 with hn | ⟨g, cap, cur, rfl, hB, hbk, hr⟩
    · exact .inl hn
    · exact .inr ⟨g, cap, cur, rfl, hB, (Below.heap_alloc w o g (lt_of_block hbk)).trans hbk, hr⟩
theorem w64 {a : Int} (h1 : -9223372036854775808 ≤ a) (h2 : a ≤ 9223372036854775807) : wrap64 a = a := by unfold wrap64; omega
theorem cell_al (W : World) (t : Int) : (W.alloc (.cells #[iv t] 3)).cell? ⟨W.heap.size, 0, none⟩ = some (iv t) := (Blk.new W #[iv t] 3).cell rfl
theorem rd_one (W : World) (t : Int) : Rd (W.alloc (.cells #[iv t] 3)) 3 1 (some ⟨W.heap.size, 0, none⟩) 1 [iv t] := by
  refine ⟨rfl, ?_, fun _ => ⟨W.heap.size, 0, rfl, (Blk.new W #[iv t] 3).row, fun j u hj => ?_⟩⟩
  · intro u hu
    have : u = iv t := by simpa using hu
    rw [this]; rfl
  · rw [Nat.zero_add]
    exact (Blk.new W #[iv t] 3).cell hj
theorem info3 : ∃ i, Try.prog.info? 3 = some i ∧ i.zero = some (.int .i64 0) ∧ i.size = 1 ∧ i.bytes ≤ 64 := by
  have h : (Try.prog.info? 3).map (fun i => (i.zero, i.size, decide (i.bytes ≤ 64))) = some (some (.int .i64 0), 1, true) := by kernel_rfl
  obtain ⟨i, hi, he⟩ := Option.map_eq_some_iff.1 h
  simp only [Prod.mk.injEq, decide_eq_true_eq] at he
  exact ⟨i, hi, he⟩

set_option maxRecDepth 100000 in
set_option maxHeartbeats 4000000 in
theorem rate_law (b r n : Int) (a : Option Addr) (len cap : Nat) (l : List Int) (hl : ArgN w a len cap l) : Calls Try.prog 5 #[lv b r n, .slice a len cap] w fun e w' => e = .returned (.bool true) ∧ Below w.heap.size w w' := by
  cases ho : okL b r n
  · have HN := fun o => new_bad_al w o b r n ho
    clear ho hl
    go_enter Try.func5, Try.ntmps5
    go_wp2_with fail
    refine (HN _).mono ?_
    rintro e w1 ⟨rfl, hb⟩
    have HL := lives_st hb
    clear HN hb
    go_wp2_with (go_at_call 10; refine HL.mono ?_; rintro e w2 ⟨rfl, hb⟩)
    go_ret
    exact ⟨rfl, hb⟩
  · obtain ⟨W0, hW0⟩ : ∃ W0, W0 = w.alloc (.cells #[iv b, iv r, iv n] 23) := ⟨_, rfl⟩
    obtain ⟨g, hg⟩ : ∃ g, w.heap.size = g := ⟨_, rfl⟩
    have HB0 : Hid (Below w.heap.size w W0) := by rw [hW0]; exact below_al w _
    have HG : Hid (g < W0.heap.size ∧ Blk W0 g 23 [iv b, iv r, iv n]) := by
      rw [hW0, ← hg]
      exact ⟨by simp, Blk.new w #[iv b, iv r, iv n] 23⟩
    have HL : Hid (ArgN W0 a len cap l) := by rw [hW0]; exact hl.below (below_al w _)
    have HN := st_new W0 b r n ho
    have hok := okL_iff.1 ho
    generalize W0.heap.size + 1 = p at HN
    clear ho hl
    go_enter Try.func5, Try.ntmps5
    go_wp2_with fail
    rw [← hW0]
    refine HN.mono ?_
    rintro e w1 ⟨rfl, s0⟩
    obtain ⟨B, hB⟩ : ∃ B, B = w1.heap.size := ⟨_, rfl⟩
    have HI : Hid (RInv W0 w1 p B len r n (.slice none 0 0) [] (Mt.fresh b r n) 0) := ⟨Nat.zero_le _, by omega, Nat.le_refl _, s0, rfl, rfl, Hts.fresh b r n, .inr ⟨by simp, rfl, .inl ⟨rfl, rfl⟩⟩, by rw [hB]; exact Blk.lt s0.at_, by omega⟩
    clear HN s0 hW0 hB
    have hn1 : 1 ≤ n := hok.2.2.1
    clear hg hok
    go_wp2
    go_loopw [31, 7] (fun u v wr => ∃ (i : Nat) (xs : List Int) (M : Mt), u = iv i ∧ Hid (RInv W0 wr p B len r n v xs M i)) (fun u _ _ => 202 - (intOf u).toNat)
    case atStart => exact ⟨0, [], _, rfl, HI.out⟩
    case round =>
      obtain ⟨i, xs, M, rfl, HV⟩ := hrel
      have HBW : Hid (Below w.heap.size w wr) := HB0.out.trans (HV.out.st.bel.mono HB0.out.size)
      by_cases ht : i = len
      · have q : (len : Int) ≤ (i : Int) := by omega
        have HL := lives_st HBW.out
        go_wp2_with (go_at_call 10; refine HL.mono ?_; rintro e w2 ⟨rfl, hb⟩)
        go_ret
        exact ⟨rfl, hb⟩
      · have HT : Hid (i < len) := by show _ < _; have := HV.out.ile; omega
        have q : (i : Int) < (len : Int) := by have := HT.out; omega
        obtain ⟨ab, aoff, ha, hal, hact⟩ := HL.out.2.2.2.2 (by have := HT.out; omega)
        subst ha
        obtain ⟨t, hx⟩ : ∃ x, l[i]? = some x := ⟨_, List.getElem?_eq_getElem (by rw [HL.out.1]; exact HT.out)⟩
        have c0 : wr.cell? ⟨ab, aoff + i, none⟩ = some (iv t) := (HV.out.st.bel.cell (p := ⟨ab, aoff + i, none⟩) hal).trans (hact i t hx)
        have HT64 : Hid (I64 t) := HL.out.2.2.2.1 t (List.mem_of_getElem? hx)
        clear hact hal hx ht HI
        by_cases h3 : i = 201
        · have q3 : (200 : Int) < (i : Int) := by omega
          have HL2 := lives_st HBW.out
          clear h3 HL
          go_wp2_with (go_at_call 10; refine HL2.mono ?_; rintro e w2 ⟨rfl, hb⟩)
          go_ret
          exact ⟨rfl, hb⟩
        · have q3 : (i : Int) ≤ 200 := by have := HV.out.few; omega
          have HI2 : Hid (i ≤ 200) := by show _ ≤ _; omega
          obtain ⟨wo, hwo⟩ : ∃ wo, wo = wr := ⟨_, rfl⟩
          subst hwo
          obtain ⟨xa, xcap, hv, hxc, hrd, _⟩ := HV.out.row.read
          subst hv
          obtain ⟨m, hm⟩ : ∃ m, xs.length = m := ⟨_, rfl⟩
          rw [hm] at hxc hrd HV ⊢
          have HM : Hid (xs.length = m) := hm
          have HRD : Hid (Rd wo 3 1 xa m (xs.map iv)) := hrd
          have cg : wo.cell? ⟨g, 2, none⟩ = some (iv n) := (HG.out.2.below HV.out.st.bel HG.out.1).cell rfl
          clear h3 hm hrd
          go_wp2
          go_loopw [40, 10] (fun u v wr => ∃ (j : Nat), u = iv j ∧ v = iv (cnt n t (xs.take j) : Nat) ∧ Hid (j ≤ m ∧ ∃ k, wr = wo.drewN k)) (fun u _ _ => m - (intOf u).toNat)
          case atStart => exact ⟨0, rfl, rfl, Nat.zero_le _, 0, rfl⟩
          case round =>
            obtain ⟨j, rfl, rfl, HJ⟩ := hrel
            obtain ⟨kd, rfl⟩ := HJ.out.2
            by_cases hj : j = m
            · have q1 : (m : Int) ≤ (j : Int) := by omega
              have HC : Hid (cnt n t (xs.take j) = cnt n t xs) := by rw [hj, ← HM.out, List.take_length]; rfl
              rw [HC.out]
              clear HC hj
              have HS : Hid (St W0 (wo.drewN kd) p M) := HV.out.st.drewN kd
              have cg1 : (wo.drewN kd).cell? ⟨g, 1, none⟩ = some (iv r) := (HG.out.2.below HS.out.bel HG.out.1).cell rfl
              have HH := st_hit2 HS.out t HT64.out.2
              go_wp2_with fail
              rcases hit_cases (M := M) t with he | ⟨h0, h1, h2, he⟩ | ⟨h0, h1, h2, he⟩
              · rw [he] at HH
                refine HH.mono ?_
                rintro e w3 ⟨rfl, s3, g3⟩
                have HE : Hid (RInv W0 w3 p B len r n (.slice xa m xcap) xs M (i + 1)) := by
                  have hr := HV.out.row
                  have hx := HM.out
                  have hle := HV.out.xle
                  refine ⟨HT.out, by have := HI2.out; omega, by omega, s3, HV.out.mr, HV.out.mn, HV.out.hts, ?_, HV.out.pB, Nat.le_trans HV.out.Bw g3.size⟩
                  exact bs_kept (w := wo.drewN kd) hr g3 HV.out.pB HS.out.at_ (by decide)
                clear HH s3 g3 cg1 cg c0 he
                go_wp2
                refine ⟨⟨i + 1, xs, M, by simp, ?_⟩, ?_⟩
                · exact HE.out
                · have := HI2.out
                  simp only [intOf]
                  omega
              · rw [he] at HH
                refine HH.mono ?_
                rintro e w3 ⟨rfl, s3, g3⟩
                have HE : Hid (RInv W0 w3 p B len r n (.slice xa m xcap) xs M (i + 1)) := by
                  have hr := HV.out.row
                  have hx := HM.out
                  have hle := HV.out.xle
                  refine ⟨HT.out, by have := HI2.out; omega, by omega, s3, HV.out.mr, HV.out.mn, HV.out.hts, ?_, HV.out.pB, Nat.le_trans HV.out.Bw g3.size⟩
                  exact bs_kept (w := wo.drewN kd) hr g3 HV.out.pB HS.out.at_ (by decide)
                have q8 : r ≤ ((cnt n t xs : Nat) : Int) := by
                  have := HV.out.hts.of h0 h1
                  rw [HV.out.mn] at this
                  rw [← this, ← HV.out.mr]
                  exact h2
                have cg3 : w3.cell? ⟨g, 1, none⟩ = some (iv r) := (HG.out.2.below HE.out.st.bel HG.out.1).cell rfl
                generalize cnt n t xs = c at q8 ⊢
                clear HH s3 g3 cg1 cg c0 he h0 h1 h2
                go_wp2
                refine ⟨⟨i + 1, xs, M, by simp, ?_⟩, ?_⟩
                · exact HE.out
                · have := HI2.out
                  simp only [intOf]
                  omega
              · rw [he] at HH
                refine HH.mono ?_
                rintro e w3 ⟨rfl, s3, g3⟩
                have HBS : Hid (Bs 3 1 B (w3.alloc (.cells #[iv t] 3)) (.slice xa m xcap) m (xs.map iv)) := by
                  have hr := HV.out.row
                  rw [HM.out] at hr
                  have h5 := bs_kept (w := wo.drewN kd) hr g3 HV.out.pB HS.out.at_ (by decide)
                  refine bs_al h5 _
                have HBw : Hid (B ≤ (w3.alloc (.cells #[iv t] 3)).heap.size) := by
                  show _ ≤ _
                  have h6 : B ≤ w3.heap.size := Nat.le_trans HV.out.Bw g3.size
                  simp
                  omega
                have HBw3 : Hid (B ≤ w3.heap.size) := Nat.le_trans HV.out.Bw g3.size
                have HS3 : Hid (St W0 w3 p { M with l := t / M.n, h := M.hitsOf t + 1 }) := s3
                have HX3 : Hid (Hts { M with l := t / M.n, h := M.hitsOf t + 1 } (xs ++ [t])) := HV.out.hts.hit h0 HT64.out.2 h1
                have q8 : ((cnt n t xs : Nat) : Int) < r := by
                  have := HV.out.hts.of h0 h1
                  rw [HV.out.mn] at this
                  rw [← this, ← HV.out.mr]
                  exact h2
                have q9 : ¬ t < 0 := by omega
                have cg3 : w3.cell? ⟨g, 1, none⟩ = some (iv r) := (HG.out.2.below s3.bel HG.out.1).cell rfl
                generalize cnt n t xs = c at q8 ⊢
                obtain ⟨i0, hi0, hz0, hz1, hz2⟩ := info3
                have HI0 : Hid (Try.prog.info? 3 = some i0 ∧ i0.zero = some (.int .i64 0) ∧ i0.size = 1 ∧ i0.bytes ≤ 64) := ⟨hi0, hz0, hz1, hz2⟩
                have HMS : Hid (m ≤ 200) := by show _ ≤ _; have := HV.out.xle; have := HI2.out; have := HM.out; omega
                have HPB : Hid (p < B ∧ M.r = r ∧ M.n = n ∧ W0.heap.size ≤ p) := ⟨HV.out.pB, HV.out.mr, HV.out.mn, s3.le⟩
                clear HH s3 g3 cg1 cg c0 he h0 h1 h2 hi0 hz0 hz1 hz2
                go_wp2_with (with_reducible change wpList _ _ _ ({ dst := some 76, op := _, type := _, pos := _, after := _, guard := _ } :: _) _ _
                             refine wpList_append_bs rfl (.tmp 73) (.tmp 75) 29 rfl _ 3 i0 (.int .i64 0) 1 B Try.underlying29 HI0.out.1 HI0.out.2.1 HI0.out.2.2.1 HI0.out.2.2.2 rfl (by omega) (.slice xa m xcap) m (xs.map iv) HBS.out (some ⟨w3.heap.size, 0, none⟩) 1 1 [iv t] rfl rfl (rd_one w3 t) HBw.out (by have := HMS.out; omega) ?_
                             intro v5 w5 hb5 hw5)
                refine ⟨⟨i + 1, xs ++ [t], { M with l := t / M.n, h := M.hitsOf t + 1 }, by simp, ?_⟩, ?_⟩
                · have h7 : Below B w3 w5 := ((below_al w3 _).mono HBw3.out).trans hw5.out
                  refine ⟨HT.out, by have := HI2.out; omega, by have := HV.out.xle; simp; omega, ?_, HPB.out.2.1, HPB.out.2.2.1, HX3.out, ?_, HPB.out.1, ?_⟩
                  · exact ⟨Blk.below HS3.out.at_ h7 HPB.out.1, HS3.out.good, HS3.out.bel.trans (h7.mono (Nat.le_of_lt (Nat.lt_of_le_of_lt HPB.out.2.2.2 HPB.out.1))), HPB.out.2.2.2⟩
                  · have := hb5.out
                    rw [← HM.out] at this
                    simpa using this
                  · exact Nat.le_trans HBw.out hw5.out.size
                · have := HI2.out
                  simp only [intOf]
                  omega
            · have q1 : (j : Int) < (m : Int) := by have := HJ.out.1; omega
              have qm : (m : Int) ≤ 201 := by have := HV.out.xle; have := HV.out.few; have := HM.out; omega
              have HJ2 : Hid (j < m) := by show _ < _; have := HJ.out.1; omega
              obtain ⟨xg, xo, hxa, _, hxr⟩ := HRD.out.2.2 (by have := HJ2.out; omega)
              subst hxa
              obtain ⟨x, hx⟩ : ∃ x, xs[j]? = some x := ⟨_, List.getElem?_eq_getElem (by rw [HM.out]; exact HJ2.out)⟩
              have hx0 := (HV.out.hts.1 x (List.mem_of_getElem? hx)).1
              have cx : wo.cell? ⟨xg, xo + j, none⟩ = some (iv x) := hxr j _ (by rw [List.getElem?_map, hx]; rfl)
              have HCN : Hid (cnt n t (xs.take (j + 1)) = cnt n t (xs.take j) + if (decide (0 ≤ t) && x / n == t / n) = true then 1 else 0) := by
                show _ = _
                rw [List.take_add_one, hx]
                exact cnt_snoc n t x _
              have HCL : Hid (cnt n t (xs.take j) ≤ 201) := by
                show _ ≤ _
                have h1 := cnt_le n t (xs.take j)
                have h2 : (xs.take j).length ≤ xs.length := by simp; omega
                have := HV.out.xle
                have := HV.out.few
                omega
              generalize cnt n t (xs.take j) = c at HCN HCL ⊢
              have qc : (c : Int) ≤ 201 := by have := HCL.out; omega
              have q5 : (n == 0) = false := by simp; omega
              have hq1 := quo_is hx0.1 hx0.2 hn1
              clear hxr hx hj hx0
              by_cases h0 : 0 ≤ t
              · have hq2 := quo_is h0 HT64.out.2 hn1
                by_cases he : x / n = t / n
                · have q6 : (wrap64 (x.tdiv n) == wrap64 (t.tdiv n)) = true := by rw [hq1, hq2, he]; simp
                  have HC2 : Hid (cnt n t (xs.take (j + 1)) = c + 1) := by show _ = _; rw [HCN.out]; simp [h0, he]
                  clear hq1 hq2 he HCN
                  go_wp2_with fail
                  go_quiet (fail)
                  go_wp2
                  refine ⟨⟨j + 1, by simp, by rw [HC2.out]; simp, HJ2.out, _, rfl⟩, ?_⟩
                  have := HJ2.out
                  simp only [intOf]
                  omega
                · have q6 : (wrap64 (x.tdiv n) == wrap64 (t.tdiv n)) = false := by rw [hq1, hq2]; simpa using he
                  have HC2 : Hid (cnt n t (xs.take (j + 1)) = c) := by show _ = _; rw [HCN.out]; simp [h0, he]
                  clear hq1 hq2 he HCN
                  go_wp2_with fail
                  go_quiet (fail)
                  go_wp2
                  refine ⟨⟨j + 1, by simp, by rw [HC2.out], HJ2.out, _, rfl⟩, ?_⟩
                  have := HJ2.out
                  simp only [intOf]
                  omega
              · have q6 : decide (0 ≤ t) = false := by simp; omega
                have HC2 : Hid (cnt n t (xs.take (j + 1)) = c) := by show _ = _; rw [HCN.out]; simp [h0]
                clear hq1 HCN
                go_wp2_with fail
                go_quiet (fail)
                go_wp2
                refine ⟨⟨j + 1, by simp, by rw [HC2.out], HJ2.out, _, rfl⟩, ?_⟩
                have := HJ2.out
                simp only [intOf]
                omega
#print axioms rate_law
end Go.Proofs.Ytbkkdjafcmnliaa.Oct
