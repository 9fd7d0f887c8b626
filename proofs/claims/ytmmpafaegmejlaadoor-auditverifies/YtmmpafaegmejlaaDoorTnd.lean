/-
  Layer 19 (audit): the law AuditTurned.
-/
import Derived.Test.YtmmpafaegmejlaaDoorTnr
namespace Go.Proofs.YtmmpafaegmejlaaDoor.Oct
open Go.RowKit Sha
set_option linter.unusedSimpArgs false
set_option linter.unusedVariables false

/-- where a log stands -/
def LI (w : World) (B L c : Nat) (es : List En) (vl : Value) (wr : World) : Prop :=
  Lg wr B L c vl es ∧ (∀ j, j < es.length → okAt es j) ∧ Below w.heap.size w wr ∧ w.heap.size ≤ B ∧ B ≤ wr.heap.size
theorem LI.below {w wr wr' : World} {B L c : Nat} {es : List En} {vl : Value} (h : LI w B L c es vl wr) (hb : Below wr.heap.size wr wr') : LI w B L c es vl wr' :=
  ⟨h.1.below hb, h.2.1, below_tr h.2.2.1 hb, h.2.2.2.1, Nat.le_trans h.2.2.2.2 hb.size⟩
theorem LI.app {w wr wr' : World} {B L c : Nat} {es : List En} {vl : Value} {tick : Int} {who what : BA} {e : Ending} (h : LI w B L c es vl wr) (hp : ApP wr B L c vl es (nxE es tick who what) e wr') : ∃ vl', LI w B L c (lA es (nxE es tick who what)) vl' wr' := by
  obtain ⟨_, v', h1, h2, h3⟩ := hp
  have hS : ∀ k, SC c vl k → B ≤ k := fun k hk => by
    rcases hk with rfl | hk
    · exact h.1.bc
    · exact (h.1.row.lt hk).1
  exact ⟨v', h1, ok_step h.2.1, h.2.2.1.trans (h3.toBelow (Nat.le_trans h.2.2.2.1 h.2.2.2.2) fun k hk => Nat.le_trans h.2.2.2.1 (hS k hk)), h.2.2.2.1, Nat.le_trans h.2.2.2.2 h3.size⟩
theorem built35U : Tryd.prog.built 35 [] = some (U (List.replicate 32 0)).toArray := by rw [← zb_is]; exact built35
set_option maxRecDepth 100000 in
set_option maxHeartbeats 8000000 in
theorem turned_law {w : World} {a : Option Addr} {n cap : Nat} {l : List ActV} (h : ArgA w a n cap l) (at_ : Int) (s : BA) (ha : -9223372036854775808 ≤ at_ ∧ at_ ≤ 9223372036854775807) (hsz : s.size ≤ 140737488355328) (hk : KT w) (hs : ST w) : Calls Tryd.prog 7 #[.slice a n cap, iv at_, .string s] w fun e w' => e = .returned (.bool true) ∧ Below w.heap.size w w' := by
  have HA : Hid (ArgA w a n cap l) := h
  have HK : Hid (KT w ∧ ST w) := ⟨hk, hs⟩
  have qn : (n : Int) ≤ 140737488355328 := by have := h.2.1; omega
  have qs : (s.size : Int) ≤ 140737488355328 := by omega
  obtain ⟨Z, hZ, HZ⟩ := zero29
  clear h hk hs hsz
  go_enter Tryd.func7, Tryd.ntmps7
  go_wp2_with fail
  refine (few_is HA.out).mono ?_
  rintro e X ⟨b, rfl, -, hbx⟩
  have HX : Hid (Below w.heap.size w X ∧ KT X ∧ ST X) := ⟨hbx, HK.out.1.below hbx, HK.out.2.below hbx⟩
  clear hbx
  by_cases hgo : b = true ∧ s.size ≤ 1000
  · obtain ⟨rfl, hs1⟩ := hgo
    have q0 : (s.size : Int) ≤ 1000 := by omega
    go_wp2_with fail
    refine (new_log X).mono ?_
    rintro e X2 ⟨L, c, rfl, hlg, hb2⟩
    have H2 : Hid (LI w X.heap.size L c [] (.slice none 0 0) X2) := ⟨hlg.out, (fun j hj => absurd hj (Nat.not_lt_zero j)), below_tr HX.out.1 hb2, HX.out.1.size, hb2.size⟩
    clear hlg hb2
    obtain ⟨B, hB⟩ : ∃ B, X.heap.size = B := ⟨_, rfl⟩
    rw [hB] at H2
    clear hB HX
    go_wp2
    go_loopw [25] (fun u wr => ∃ (i : Nat) (es : List En) (vl : Value), u = iv (i : Int) ∧ Hid (i ≤ n ∧ LI w B L c es vl wr)) (fun u _ => n - (intOf u).toNat)
    case atStart => exact ⟨0, [], _, rfl, Nat.zero_le _, H2.out⟩
    case round =>
      obtain ⟨i, es, vl, rfl, HI⟩ := hrel
      clear H2
      by_cases hi : i = n
      · subst hi
        have HI2 : Hid (LI w B L c es vl wr ∧ KT wr ∧ ST wr) := ⟨HI.out.2, HK.out.1.below HI.out.2.2.2.1, HK.out.2.below HI.out.2.2.2.1⟩
        clear HI
        go_wp2_with fail
        refine (entries_is HI2.out.1.1).mono ?_
        rintro e W3 ⟨v7, rfl, ho7, hb3⟩
        obtain ⟨m, hm⟩ : ∃ m, es.length = m := ⟨_, rfl⟩
        have HM : Hid (es.length = m ∧ LI w B L c es vl W3 ∧ KT W3 ∧ ST W3) := ⟨hm, HI2.out.1.below hb3, HI2.out.2.1.below hb3, HI2.out.2.2.below hb3⟩
        have qm : (m : Int) ≤ 5000 := by have := HM.out.2.1.1.len; omega
        obtain ⟨D, hD⟩ : ∃ D, hdE es = D := ⟨_, rfl⟩
        have HD : Hid (hdE es = D) := hD
        clear hD
        clear hb3 HI2
        by_cases hm0 : m = 0
        · subst hm0
          obtain ⟨_, a7, c7, rfl, hle7, hcap7, hr7⟩ := ho7.out.esr
          rw [hm]
          have he0 : es = [] := List.length_eq_zero_iff.1 hm
          subst he0
          have HDR : Hid (D = List.replicate 32 0 ∧ D.length = 32) := ⟨HD.out.symm, by rw [← HD.out]; exact hdE_len _⟩
          have HB5 : Tryd.prog.built 35 [] = some (U D).toArray := by rw [HDR.out.1]; exact built35U
          clear ho7 hle7 hcap7 hr7 hm
          go_wp2_with fail
          refine (headL_is HM.out.2.1.1 HM.out.2.2.1 HM.out.2.2.2 _ HD.out).mono ?_
          rintro e W4 ⟨rfl, hb4⟩
          have H4 : Hid (Below W3.heap.size W3 W4) := hb4
          clear hb4
          have hq := fun W => (eqHb D D HDR.out.2 HDR.out.2 W).trans (by rw [decide_eq_true rfl])
          go_wp2_with (with_reducible change wpList _ _ _ ({ dst := some 45, op := _, type := _, pos := _, after := _, guard := _ } :: _) _ _; refine Hid.out ?_)
          show wpList _ _ _ _ _ _
          refine wpList_built rfl 35 _ rfl (U D).toArray (by rw [← HB5]; simp) ?_
          go_wp2_with (with_reducible change wpList _ _ _ ({ dst := some 48, op := _, type := _, pos := _, after := _, guard := _ } :: _) _ _; refine Hid.out ?_)
          show wpList _ _ _ _ _ _
          refine wpList_built_want rfl 35 _ rfl (U D).toArray (by rw [← HB5]; simp) ?_
          go_wp2_with fail
          refine (holds_is (w := W4) (EsR.nil W4) (by simp) (by simp) (HM.out.2.2.1.below H4.out) (HM.out.2.2.2.below H4.out) (Dh := D) HDR.out.2 true ⟨fun _ => ⟨(fun j hj => absurd hj (Nat.not_lt_zero j)), HD.out⟩, fun _ => rfl⟩).mono ?_
          rintro e W5 ⟨rfl, hb5⟩
          have H5 : Hid (Below W3.heap.size W3 W5) := below_tr H4.out hb5
          clear hb5
          go_wp2_with fail
          refine (lives_is W5 (HM.out.2.2.1.below H5.out) (HM.out.2.2.2.below H5.out)).mono ?_
          rintro e W6 ⟨rfl, hb6⟩
          have HF : Hid (Below w.heap.size w W6) := below_tr (below_tr HM.out.2.1.2.2.1 H5.out) hb6
          clear hb6
          go_wp2
          go_ret
          exact ⟨rfl, HF.out⟩
        · rcases ho7.out.1.2 with ⟨rfl, h0⟩ | ⟨g, cap7, cur, rfl, hB7, hbl7, hn7, hc7, hs7, ht7⟩
          · exact absurd (by rw [← hm]; exact h0) hm0
          rw [hm] at hn7 ⊢
          have qm0 : 0 < (m : Int) := by omega
          have hwr : IntKind.u64.wrap at_ = at_ % 18446744073709551616 := IntKind.wrap_u64 at_
          have hnn : 0 ≤ IntKind.u64.wrap at_ := by rw [hwr]; omega
          have htm : (IntKind.u64.wrap at_).tmod (m : Int) = (IntKind.u64.wrap at_) % (m : Int) := Int.tmod_eq_emod_of_nonneg hnn
          have hlo : 0 ≤ (IntKind.u64.wrap at_) % (m : Int) := Int.emod_nonneg _ (by omega)
          have hhi : (IntKind.u64.wrap at_) % (m : Int) < (m : Int) := Int.emod_lt_of_pos _ (by omega)
          obtain ⟨k, hP⟩ : ∃ P : Nat, (IntKind.u64.wrap at_).tmod (m : Int) = (P : Int) := ⟨((IntKind.u64.wrap at_) % (m : Int)).toNat, by rw [htm]; omega⟩
          have qk : (k : Int) < (m : Int) := by omega
          have qk2 : k < m := by omega
          clear hwr hnn htm hlo hhi
          obtain ⟨x, hx⟩ : ∃ x, es[k]? = some x := ⟨_, List.getElem?_eq_getElem (by omega)⟩
          obtain ⟨_, _, _, heq, _, _, hrr⟩ := ho7.out.esr
          rw [hm] at heq
          cases heq
          obtain ⟨g', off', hgo, hgl, hrow⟩ := hrr (by omega)
          cases hgo
          have hxm := List.mem_of_getElem? hx
          have HR : Hid (es[k]? = some x ∧ x.ok ∧ x.sz ∧ W3.rangeAt g (0 + k * 36) x.cells ∧ g < W3.heap.size ∧ EsR W3 (.slice (some ⟨g, 0, none⟩) m cap7) es ∧ k < m) := ⟨hx, ho7.out.2 x hxm, HM.out.2.1.1.sz x hxm, hrow k x hx, hgl, by rw [← hm]; exact ho7.out.esr, qk2⟩
          have cw : W3.cell? ⟨g, k * 36 + 3, none⟩ = some (.string x.what) := by have := HR.out.2.2.2.1 3 (.string x.what) rfl; simpa using this
          clear hrow hgl hxm hx hrr hB7 hbl7 hn7 hc7 hs7 ht7 ho7 hm
          by_cases hw : x.what = s
          · subst hw
            go_wp2_with fail
            refine (headL_is HM.out.2.1.1 HM.out.2.2.1 HM.out.2.2.2 D HD.out).mono ?_
            rintro e W4 ⟨rfl, hb4⟩
            have H4 : Hid (Below W3.heap.size W3 W4) := hb4
            clear hb4
            go_wp2_with fail
            refine (holds_is (w := W4) (HR.out.2.2.2.2.2.1.below H4.out) HM.out.2.1.1.sz (by have := HM.out.2.1.1.len; omega) (HM.out.2.2.1.below H4.out) (HM.out.2.2.2.below H4.out) (Dh := D) (by rw [← HD.out]; exact hdE_len es) true ⟨fun _ => ⟨HM.out.2.1.2.1, HD.out⟩, fun _ => rfl⟩).mono ?_
            rintro e W5 ⟨rfl, hb5⟩
            have H5 : Hid (Below W3.heap.size W3 W5) := below_tr H4.out hb5
            clear hb5
            go_wp2_with fail
            refine (lives_is W5 (HM.out.2.2.1.below H5.out) (HM.out.2.2.2.below H5.out)).mono ?_
            rintro e W6 ⟨rfl, hb6⟩
            have HF : Hid (Below w.heap.size w W6) := below_tr (below_tr HM.out.2.1.2.2.1 H5.out) hb6
            clear hb6
            go_wp2
            go_ret
            exact ⟨rfl, HF.out⟩
          · have hwb : (x.what.toList == s.toList) = false := by rw [beq_eq_false_iff_ne]; intro h; exact hw (ba_ext (by rw [← toList_d, ← toList_d]; exact h))
            go_wp2_with fail
            refine (fresh_is HR.out.2.2.2.2.2.1 (by have := HM.out.2.1.1.len; omega)).mono ?_
            rintro e W4 ⟨v8, rfl, ho8, hb4⟩
            have H4 : Hid (Below W3.heap.size W3 W4) := hb4
            rcases ho8.out.1.2 with ⟨rfl, h0⟩ | ⟨p, cap8, cur8, rfl, hB8, hbl8, hn8, hc8, hs8, ht8⟩
            · exact absurd (by rw [← HM.out.1]; exact h0) hm0
            obtain ⟨_, _, _, heq, _, _, hrr⟩ := ho8.out.esr
            cases heq
            obtain ⟨g', off', hgo, hgl, hrow⟩ := hrr (by rw [HM.out.1]; omega)
            cases hgo
            have HP : Hid (Blk W4 p 37 cur8.toList ∧ (∀ i e, es[i]? = some e → W4.rangeAt p (0 + i * 36) e.cells) ∧ p < W4.heap.size ∧ W3.heap.size ≤ p ∧ es.length ≤ cap8 ∧ cap8 ≤ maxLen) := ⟨hbl8, hrow, hgl, hB8, hn8, hc8⟩
            have hcl : k * 36 + 3 < cur8.toList.length := by
              have := hrow k x HR.out.1 3 (.string x.what) rfl
              rw [cell_of_row W4 p _ _ 37 (0, 0) hbl8, Nat.zero_add] at this
              simpa using (Array.getElem?_eq_some_iff.1 this).1
            have HCL : Hid (k * 36 + 3 < cur8.toList.length) := hcl
            rw [HM.out.1]
            clear hb4 hrow hgl hrr hB8 hbl8 hn8 hc8 hs8 ht8 ho8 hcl cw
            go_wp2_with (with_reducible change wpList _ _ _ ({ dst := none, op := Op.store 9 _ _, type := _, pos := _, after := _, guard := _ } :: _) _ _; refine Hid.out ?_)
            show wpList _ _ _ _ _ _
            refine wpList_store1 rfl 9 (.tmp 81) (.tmp 79) rfl p (k * 36 + 3) 37 cur8.toList (.string s) rfl rfl HP.out.1 HCL.out (by kernel_rfl) rfl rfl ?_
            intro W5 hx5 hg5
            have H5 : Hid (Below W3.heap.size W3 W5 ∧ Blk W5 p 37 (cur8.toList.take (k * 36 + 3) ++ [.string s] ++ cur8.toList.drop (k * 36 + 3 + 1))) := ⟨below_gr H4.out hg5.out HP.out.2.2.2.1, hx5.out⟩
            clear hx5 hg5
            obtain ⟨y, hy⟩ : ∃ y, x.say s = y := ⟨_, rfl⟩
            have hrow := set_row HR.out.2.2.2.2.2.1.1 HP.out.1 HP.out.2.1 HR.out.1 H5.out.2
            rw [hy] at hrow
            have hsm := okAt_prev (HM.out.2.1.2.1 k (by rw [HM.out.1]; exact HR.out.2.2.2.2.2.2)) HR.out.1
            have hyk : y.ok := by rw [← hy]; exact ⟨HR.out.2.1.1, HR.out.2.1.2.1, HR.out.2.1.2.2.1, HR.out.2.1.2.2.2.1, by show s.size ≤ _; omega⟩
            have hyz : y.sz := by rw [← hy]; show x.who.size + s.size ≤ 400000000; have := hsm.2.1; omega
            have hlen : (es.set k y).length = m := by rw [List.length_set]; exact HM.out.1
            have hall : ∀ e ∈ es.set k y, e.ok ∧ e.sz := fun e he => by
              rcases List.mem_or_eq_of_mem_set he with h | h
              · exact ⟨HR.out.2.2.2.2.2.1.1 e h, HM.out.2.1.1.sz e h⟩
              · rw [h]; exact ⟨hyk, hyz⟩
            have HY : Hid (y.ok ∧ y.sz ∧ x.say s = y ∧ (∀ e ∈ es.set k y, e.sz) ∧ (es.set k y).length = m ∧ EsR W5 (.slice (some ⟨p, 0, none⟩) m cap8) (es.set k y) ∧ W5.rangeAt p (0 + k * 36) y.cells ∧ p < W5.heap.size) := by
              have hpl := H5.out.2.lt
              refine ⟨hyk, hyz, hy, fun e he => (hall e he).2, hlen, ⟨fun e he => (hall e he).1, some ⟨p, 0, none⟩, cap8, by rw [hlen], by rw [hlen]; have := HP.out.2.2.2.2.1; have := HM.out.1; omega, HP.out.2.2.2.2.2, fun _ => ⟨p, 0, rfl, hpl, hrow⟩⟩, hrow k y (by rw [List.getElem?_set_self (by rw [HM.out.1]; exact HR.out.2.2.2.2.2.2)]), hpl⟩
            obtain ⟨D1, hD1⟩ : ∃ D, dgE y = D := ⟨_, rfl⟩
            obtain ⟨D2, hD2⟩ : ∃ D, dgE x = D := ⟨_, rfl⟩
            obtain ⟨E, hE⟩ : ∃ E, decide (D1 = D2) = E := ⟨_, rfl⟩
            have HE : Hid (decide (D1 = D2) = E ∧ dgE y = D1 ∧ dgE x = D2 ∧ D1.length = 32 ∧ D2.length = 32) := ⟨hE, hD1, hD2, by rw [← hD1]; exact dgE_len y, by rw [← hD2]; exact dgE_len x⟩
            have HK5 : Hid (KT W5 ∧ ST W5) := ⟨HM.out.2.2.1.below H5.out.1, HM.out.2.2.2.below H5.out.1⟩
            have HXY : Hid (y.ok ∧ x.ok) := ⟨hyk, HR.out.2.1⟩
            have HRR : Hid (W5.rangeAt p (0 + k * 36) y.cells ∧ W5.rangeAt g (0 + k * 36) x.cells ∧ p < W5.heap.size ∧ g < W5.heap.size) := ⟨HY.out.2.2.2.2.2.2.1, rangeAt_same HR.out.2.2.2.1 (H5.out.1.block g HR.out.2.2.2.2.1), HY.out.2.2.2.2.2.2.2, Nat.lt_of_lt_of_le HR.out.2.2.2.2.1 H5.out.1.size⟩
            have HD1 : Hid (∀ V, Below W5.heap.size W5 V → Calls Tryd.prog 20 #[.agg y.cells.toArray] V fun e V2 => e = .returned (.agg (U D1).toArray) ∧ Below V.heap.size V V2) := fun V hV => digest_is y HXY.out.1 HY.out.2.1 D1 HE.out.2.1 V (HK5.out.1.below hV) (HK5.out.2.below hV)
            have HD2 : Hid (∀ V, Below W5.heap.size W5 V → Calls Tryd.prog 20 #[.agg x.cells.toArray] V fun e V2 => e = .returned (.agg (U D2).toArray) ∧ Below V.heap.size V V2) := fun V hV => digest_is x HXY.out.2 HR.out.2.2.1 D2 HE.out.2.2.1 V (HK5.out.1.below hV) (HK5.out.2.below hV)
            have HED : Hid (∀ W, (binOp .eql 35 (.agg (U D1).toArray) (.agg (U D2).toArray)).run Tryd.prog W = .ok (.bool E) W) := fun W => by rw [← HE.out.1]; exact eqHb D1 D2 HE.out.2.2.2.1 HE.out.2.2.2.2 W
            clear hrow hsm hyk hyz hlen hall hD1 hD2 hE hy
            go_wp2_with fail
            refine tn17 HXY HRR HD1 HD2 HED qk qk2 ?_
            intro V hV
            have HV : Hid (Below W3.heap.size W3 V ∧ Below W5.heap.size W5 V) := ⟨below_tr H5.out.1 hV, hV⟩
            clear hV HD1 HD2 HED
            cases E
            · go_wp2_with fail
              refine (headL_is (HM.out.2.1.1.below HV.out.1) (HM.out.2.2.1.below HV.out.1) (HM.out.2.2.2.below HV.out.1) D HD.out).mono ?_
              rintro e W6 ⟨rfl, hb6⟩
              have H6 : Hid (Below W3.heap.size W3 W6 ∧ Below W5.heap.size W5 W6) := ⟨below_tr HV.out.1 hb6, below_tr HV.out.2 hb6⟩
              clear hb6
              go_wp2_with fail
              refine (holds_is (w := W6) (HY.out.2.2.2.2.2.1.below H6.out.2) HY.out.2.2.2.1 (by rw [HY.out.2.2.2.2.1]; omega) (HM.out.2.2.1.below H6.out.1) (HM.out.2.2.2.below H6.out.1) (Dh := D) (by rw [← HD.out]; exact hdE_len es) false ⟨fun h => (nomatch h), fun h => ?_⟩).mono ?_
              · exfalso
                have hne : D1 ≠ D2 := of_decide_eq_false HE.out.1
                refine turned_not (s := s) HR.out.1 HM.out.2.1.2.1 ?_ ?_
                · rw [HY.out.2.2.1, HE.out.2.1, HE.out.2.2.1]; exact hne
                · rw [HY.out.2.2.1, HD.out]; exact h
              rintro e W7 ⟨rfl, hb7⟩
              have H7 : Hid (Below W3.heap.size W3 W7) := below_tr H6.out.1 hb7
              clear hb7
              go_wp2_with fail
              refine (lives_is W7 (HM.out.2.2.1.below H7.out) (HM.out.2.2.2.below H7.out)).mono ?_
              rintro e W8 ⟨rfl, hb8⟩
              have HF : Hid (Below w.heap.size w W8) := below_tr (below_tr HM.out.2.1.2.2.1 H7.out) hb8
              clear hb8
              go_wp2
              go_ret
              exact ⟨rfl, HF.out⟩
            · go_wp2_with fail
              refine (lives_is V (HM.out.2.2.1.below HV.out.1) (HM.out.2.2.2.below HV.out.1)).mono ?_
              rintro e W8 ⟨rfl, hb8⟩
              have HF : Hid (Below w.heap.size w W8) := below_tr (below_tr HM.out.2.1.2.2.1 HV.out.1) hb8
              clear hb8
              go_wp2
              go_ret
              exact ⟨rfl, HF.out⟩
      · have hlt : i < n := by have := HI.out.1; omega
        have q1 : (i : Int) < (n : Int) := by omega
        obtain ⟨x, hx⟩ : ∃ x, l[i]? = some x := ⟨_, List.getElem?_eq_getElem (by rw [HA.out.1]; exact hlt)⟩
        obtain ⟨b, off, rfl, hb, hel⟩ := HA.out.2.2.2 (by omega)
        have hok := HA.out.2.2.1 x (List.mem_of_getElem? hx)
        have HX : Hid (wr.rangeAt b (off + i * 4) x.cells ∧ i < n ∧ x.ok) := ⟨rangeAt_same (hel i x hx) (HI.out.2.2.2.1.block b hb), hlt, hok⟩
        obtain ⟨g6, hg6⟩ : ∃ g, wr.heap.size = g := ⟨_, rfl⟩
        have HG6 : Hid (wr.heap.size = g6) := hg6
        clear hi hlt hx hel hb hok
        go_wp2_with (with_reducible change wpList _ _ _ ({ dst := some 28, op := _, type := _, pos := _, after := _, guard := _ } :: _) _ _; refine Hid.out ?_)
        show wpList _ _ _ _ _ _
        refine wpList_load_mid rfl 29 (.tmp 27) rfl b (off + i * 4) rfl x.cells _ HX.out.1 Tryd.underlying29 rfl (size29 x) ?_
        go_wp2_with (with_reducible change wpList _ _ _ ({ dst := none, op := Op.store 29 _ _, type := _, pos := _, after := _, guard := _ } :: _) _ _; refine Hid.out ?_)
        show wpList _ _ _ _ _ _
        refine wpList_store_blk rfl 29 (.tmp 9) (.tmp 28) rfl g6 0 29 Z x.cells rfl rfl (by rw [← HG6.out]; exact Blk.new wr _ _) (by rw [HZ.out]; exact Nat.le_refl _) (size29 x) x.one ?_
        intro W1 hx1 hg1
        have H1 : Hid (LI w B L c es vl W1 ∧ Blk W1 g6 29 x.cells ∧ KT W1 ∧ ST W1) := by
          have hb1 : Below wr.heap.size wr W1 := below_gr (below_al wr _) hg1.out (by rw [HG6.out]; exact Nat.le_refl _)
          have h := HI.out.2.below hb1
          exact ⟨h, blk_all hx1.out (by rw [HZ.out]; rfl), HK.out.1.below h.2.2.1, HK.out.2.below h.2.2.1⟩
        have c0 : W1.cell? ⟨g6, 0, none⟩ = some (iv x.tick) := H1.out.2.1.cell rfl
        have c1 : W1.cell? ⟨g6, 1, none⟩ = some (.string x.who) := H1.out.2.1.cell rfl
        have c2 : W1.cell? ⟨g6, 2, none⟩ = some (.string x.what) := H1.out.2.1.cell rfl
        clear hx1 hg1 hg6
        go_wp2_with fail
        refine (append_is H1.out.1.1 H1.out.2.2.1 H1.out.2.2.2 H1.out.1.2.2.2.2 x.tick x.who x.what HX.out.2.2.2.1 HX.out.2.2.2.2 HX.out.2.2.1.2).mono ?_
        intro e W2 hap
        have he := hap.1
        subst he
        obtain ⟨vl2, hj⟩ := H1.out.1.app hap
        have HJ : Hid (i + 1 ≤ n ∧ LI w B L c (lA es (nxE es x.tick x.who x.what)) vl2 W2) := ⟨HX.out.2.1, hj⟩
        clear hap hj c0 c1 c2
        dsimp only
        go_wp2
        go_roundw
        case rel => exact ⟨i + 1, _, vl2, rfl, HJ.out⟩
        case measure => show n - (i + 1) < n - i; have := HX.out.2.1; omega
  · cases b
    · go_wp2_with fail
      refine (lives_is X HX.out.2.1 HX.out.2.2).mono ?_
      rintro e X2 ⟨rfl, hb2⟩
      have HF : Hid (Below w.heap.size w X2) := below_tr HX.out.1 hb2
      clear hb2
      go_wp2
      go_ret
      exact ⟨rfl, HF.out⟩
    · have q0 : 1000 < (s.size : Int) := by
        have : ¬ s.size ≤ 1000 := fun h => hgo ⟨rfl, h⟩
        omega
      clear hgo
      go_wp2_with fail
      refine (lives_is X HX.out.2.1 HX.out.2.2).mono ?_
      rintro e X2 ⟨rfl, hb2⟩
      have HF : Hid (Below w.heap.size w X2) := below_tr HX.out.1 hb2
      clear hb2
      go_wp2
      go_ret
      exact ⟨rfl, HF.out⟩
#print axioms turned_law
end Go.Proofs.YtmmpafaegmejlaaDoor.Oct
