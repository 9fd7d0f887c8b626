/-
  Layer 15 (people): the document's people: PeoplePlays, the law.
-/
import Derived.Test.YtfickhhfhdhcbaaPlt
namespace Go.Proofs.Ytfickhhfhdhcbaa.Oct
open Go.RowKit
set_option linter.unusedSimpArgs false
set_option linter.unusedVariables false


theorem StrAt.cast {w : World} {a : Option Addr} {n : Nat} {l l' : List Hs} (h : StrAt w a n l) (e : l = l') : StrAt w a n l' := e ▸ h
/-- what the law's loop keeps -/
structure PI (w : World) (p b4 : Nat) (W : World) (M : Pm) (R : Rp) (uv ov fv : Value) (i : Nat) : Prop where
  pb : PB w.heap.size W p M
  sh : Sh M
  bw : Below w.heap.size w W
  blk : Blk W b4 30 [uv, ov, fv]
  rp : RPt W uv ov fv R
  rel : Rel M R
  len : R.F.length ≤ i
  far : b4 ∉ M.bl p
  up : w.heap.size ≤ b4
theorem PI.below {w : World} {p b4 : Nat} {W W' : World} {M : Pm} {R : Rp} {uv ov fv : Value} {i : Nat} (h : PI w p b4 W M R uv ov fv i) (hb : Below W.heap.size W W') : PI w p b4 W' M R uv ov fv i :=
  ⟨⟨h.pb.1.below hb, h.pb.2.1, Nat.le_trans h.pb.2.2 hb.size⟩, h.sh, below_tr h.bw hb, h.blk.below hb h.blk.lt, h.rp.below hb, h.rel, h.len, h.far, h.up⟩
theorem org_short {M : Pm} (h : Sh M) {y : Hs} (hy : y ∈ orgsL M) : y.length ≤ 140737488355328 := by
  unfold orgsL at hy
  obtain ⟨o, ho, rfl⟩ := List.mem_map.1 (sortK_mem.1 hy)
  exact (h.2 o ho).1
theorem user_short {M : Pm} (h : Sh M) {y : Hs} (hy : y ∈ sortK M.users) : y.length ≤ 140737488355328 := h.1 y (sortK_mem.1 hy)
set_option maxRecDepth 100000 in
set_option maxHeartbeats 8000000 in
theorem plays_law (l : List Av) (a : Option Addr) (n cp0 : Nat) (w : World) (hl : ArgA w a n cp0 l) :
    Calls Try.prog 3 #[.slice a n cp0] w fun e w' => e = .returned (.bool true) ∧ Below w.heap.size w w' := by
  have hz32 := zero32
  have hz30 := zero30
  have hz42 : ∀ W, (zeroValue 42).run Try.prog W = .ok (.agg #[.string ⟨#[]⟩, .slice none 0 0, .int .i64 0]) W := fun W => by kernel_rfl
  have HFEW := few_is2 l a n cp0 w hl
  have HL : Hid (ArgA w a n cp0 l) := hl
  have qn : (n : Int) ≤ 2199023255552 := by have := hl.2.1; omega
  have HLV := fun W => lives_is W
  clear hl
  go_enter Try.func3, Try.ntmps3
  go_wp2_with fail
  refine HFEW.mono ?_
  rintro e w1 ⟨r, rfl, hb1, hn200⟩
  have HB1 : Hid (Below w.heap.size w w1 ∧ (r = true → n ≤ 200)) := ⟨hb1, hn200⟩
  clear HFEW hb1 hn200
  cases r with
  | false =>
    have HLW := HLV w1
    go_wp2_with fail
    refine HLW.mono ?_
    rintro e w2 ⟨rfl, hb2⟩
    have HB2 : Hid (Below w.heap.size w w2) := below_tr HB1.out.1 hb2
    clear HLW hb2
    go_wp2_with fail
    go_ret
    exact ⟨rfl, HB2.out⟩
  | true =>
    have HNEW := new_is w1
    go_wp2_with fail
    refine HNEW.mono ?_
    rintro e w2 ⟨rfl, hq0, hb2⟩
    obtain ⟨p, hp⟩ : ∃ p, w1.heap.size + 1 + 1 = p := ⟨_, rfl⟩
    rw [hp] at hq0 ⊢
    have HO0 : Hid (PB w.heap.size w2 p (Pm0 w1.heap.size) ∧ Sh (Pm0 w1.heap.size) ∧ Below w.heap.size w w2) := by
      have h1 := HB1.out.1.size
      have h2 := hb2.size
      refine ⟨⟨hq0, fun k hk => ?_, by omega⟩, Sh.zero _, below_tr HB1.out.1 hb2⟩
      simp [Pm.bl, Pm.hp, Pm0] at hk
      omega
    clear HNEW hq0 hb2 hp
    have HN2 : Hid (n ≤ 200) := by have h := HB1.out.2; show n ≤ 200; simpa using h
    obtain ⟨M0, hM0⟩ : ∃ M0, Pm0 w1.heap.size = M0 := ⟨_, rfl⟩
    have HR0 : Hid (Rel M0 ⟨[], [], []⟩) := by rw [← hM0]; exact rel_new _
    rw [hM0] at HO0
    obtain ⟨b4, hb4⟩ : ∃ b, w2.heap.size = b := ⟨_, rfl⟩
    clear hM0
    go_wp2_with (with_reducible change wpList _ _ _ ({ dst := none, op := Op.store 30 _ _, type := _, pos := _, after := _, guard := _ } :: _) _ _; refine Hid.out ?_)
    show wpList _ _ _ _ _ _
    refine wpList_store_blk rfl 30 (.tmp 4) (.tmp 18) rfl b4 0 30 [.slice none 0 0, .slice none 0 0, .slice none 0 0] [.slice none 0 0, .slice none 0 0, .slice none 0 0] rfl rfl (by rw [← hb4]; exact Blk.new w2 _ _) (by simp) size30 (by simp [Value.oneCell']) ?_
    intro W0 hbs hgs
    have HI0 : Hid (PI w p b4 W0 M0 ⟨[], [], []⟩ (.slice none 0 0) (.slice none 0 0) (.slice none 0 0) 0) := by
      have hB : Below w2.heap.size w2 W0 := (below_al w2 _).grown hgs.out (below_al w2 _).size (fun j hj => by cases hj; omega)
      have h := HO0.out
      refine ⟨⟨h.1.1.below hB, h.1.2.1, Nat.le_trans h.1.2.2 hB.size⟩, h.2.1, below_tr h.2.2 hB, by simpa using hbs.out, ⟨SV.nil _ _, SV.nil _ _, SV.nil _ _, by simp, by simp, by simp⟩, HR0.out, by simp, fun e => by have := h.1.1.hp.lt _ e; omega, by rw [← hb4]; exact h.1.2.2⟩
    clear hbs hgs hb4 HO0 HR0
    go_wp2
    go_loopw [21] (fun u W => ∃ (i : Nat) (M : Pm) (R : Rp) (uv ov fv : Value), u = iv i ∧ Hid (i ≤ n ∧ PI w p b4 W M R uv ov fv i)) (fun u _ => n - (intOf u).toNat)
    case atStart => exact ⟨0, _, _, _, _, _, rfl, Nat.zero_le _, HI0.out⟩
    case round =>
      obtain ⟨i, M, R, uv, ov, fv, rfl, HI⟩ := hrel
      by_cases hi : i = n
      · have q1 : (n : Int) ≤ (i : Int) := by omega
        have hO1 : ∃ O1, O1 = wr := ⟨_, rfl⟩
        obtain ⟨O1, hO1⟩ := hO1
        subst hO1
        obtain ⟨ua, uc, hu0, _⟩ := HI.out.2.rp.u
        subst hu0
        obtain ⟨oa, oc, ho0, _⟩ := HI.out.2.rp.o
        subst ho0
        obtain ⟨fa, fc, hf0, _⟩ := HI.out.2.rp.f
        subst hf0
        obtain ⟨nu, hnu⟩ : ∃ m, R.U.length = m := ⟨_, rfl⟩
        obtain ⟨no, hno⟩ : ∃ m, R.O.length = m := ⟨_, rfl⟩
        obtain ⟨m, hm⟩ : ∃ m, R.F.length = m := ⟨_, rfl⟩
        have HJ0 : Hid (PI w p b4 O1 M R (.slice ua nu uc) (.slice oa no oc) (.slice fa m fc) i ∧ R.U.length = nu ∧ R.O.length = no ∧ i ≤ 200) := ⟨by rw [← hnu, ← hno, ← hm]; exact HI.out.2, hnu, hno, by have := HI.out.1; have := HN2.out; omega⟩
        have qu : (nu : Int) ≤ 1000 := by have := HI.out.2.rp.nu; omega
        have qo : (no : Int) ≤ 1000 := by have := HI.out.2.rp.no; omega
        have c1 : O1.cell? ⟨b4, 1, none⟩ = some (.slice oa no oc) := HJ0.out.1.blk.cell rfl
        clear hi hnu hno hm HI
        go_wp2
        go_loopw [97] (fun u W => ∃ j : Nat, u = iv j ∧ Hid (j ≤ no ∧ Below O1.heap.size O1 W)) (fun u _ => no - (intOf u).toNat)
        case atStart => exact ⟨0, rfl, Nat.zero_le _, Below.refl _ _⟩
        case round =>
          obtain ⟨j, rfl, HJ⟩ := hrel
          have hJ1 : ∃ J1, J1 = wr := ⟨_, rfl⟩
          obtain ⟨J1, hJ1⟩ := hJ1
          subst hJ1
          by_cases hj : j = no
          · have q3 : (no : Int) ≤ (j : Int) := by omega
            have HLW := HLV J1
            clear hj
            go_wp2_with fail
            refine HLW.mono ?_
            rintro e w9 ⟨rfl, hb9⟩
            have HB9 : Hid (Below w.heap.size w w9) := below_tr (HJ0.out.1.below HJ.out.2).bw hb9
            clear HLW hb9
            go_wp2_with fail
            go_ret
            exact ⟨rfl, HB9.out⟩
          · have HJQ : Hid (j < no) := by have := HJ.out.1; show _ < _; omega
            have q3 : (j : Int) < (no : Int) := by have := HJQ.out; omega
            have q4 : j < no := HJQ.out
            have HPJ : Hid (PI w p b4 J1 M R (.slice ua nu uc) (.slice oa no oc) (.slice fa m fc) i) := HJ0.out.1.below HJ.out.2
            have hso := HPJ.out.rp.o
            rw [HJ0.out.2.2.1] at hso
            obtain ⟨go, c', y, hao, hgo, hy, hcy⟩ := (sv_name hso).2 j q4
            cases hao
            have HY : Hid (y.length ≤ 140737488355328) := org_short HPJ.out.sh (by rw [← HPJ.out.rel.O]; exact List.mem_of_getElem? hy)
            have c2 : J1.cell? ⟨b4, 0, none⟩ = some (.slice ua nu uc) := HPJ.out.blk.cell rfl
            clear hj hso hgo hy c1
            go_wp2
            go_loopw [104] (fun u W => ∃ k : Nat, u = iv k ∧ Hid (k ≤ nu ∧ Below J1.heap.size J1 W)) (fun u _ => nu - (intOf u).toNat)
            case atStart => exact ⟨0, rfl, Nat.zero_le _, Below.refl _ _⟩
            case round =>
              obtain ⟨k, rfl, HK⟩ := hrel
              by_cases hk : k = nu
              · have q5 : (nu : Int) ≤ (k : Int) := by omega
                have HE : Hid (j + 1 ≤ no ∧ Below O1.heap.size O1 wr) := ⟨HJQ.out, below_tr HJ.out.2 HK.out.2⟩
                clear hk c2 hcy
                go_wp2
                go_roundw
                case rel => exact ⟨j + 1, by simp, HE.out⟩
                case measure =>
                  have := HJQ.out
                  simp only [intOf]
                  omega
              · have HKQ : Hid (k < nu) := by have := HK.out.1; show _ < _; omega
                have q5 : (k : Int) < (nu : Int) := by have := HKQ.out; omega
                have q6 : k < nu := HKQ.out
                have HPK : Hid (PI w p b4 wr M R (.slice ua nu uc) (.slice (some ⟨go, 0, none⟩) no oc) (.slice fa m fc) i) := HPJ.out.below HK.out.2
                have hsu := HPK.out.rp.u
                rw [HJ0.out.2.1] at hsu
                obtain ⟨gu, c'', z, hau, hgu, hz, hcz⟩ := (sv_name hsu).2 k q6
                cases hau
                have HOK : Hid (y.length ≤ 140737488355328 ∧ z.length ≤ 140737488355328) := ⟨HY.out, user_short HPK.out.sh (by rw [← HPK.out.rel.U]; exact List.mem_of_getElem? hz)⟩
                have HP : Hid (PAt wr p M ∧ Sh M) := ⟨HPK.out.pb.1, HPK.out.sh⟩
                have HRL : Hid (Rel M R ∧ Nd M ∧ R.F.length ≤ 990) := ⟨HPK.out.rel, HPK.out.pb.1.nd, by have h1 := HPK.out.len; have h2 := HJ0.out.2.2.2; omega⟩
                have HRP : Hid (RPt wr (.slice (some ⟨gu, 0, none⟩) nu uc) (.slice (some ⟨go, 0, none⟩) no oc) (.slice fa m fc) R) := HPK.out.rp
                have HB4 : Hid (Blk wr b4 30 [.slice (some ⟨gu, 0, none⟩) nu uc, .slice (some ⟨go, 0, none⟩) no oc, .slice fa m fc]) := HPK.out.blk
                clear hk hsu hgu hz c2 hcy
                go_wp2_with fail
                refine pl19 HP HRL HRP HB4 HOK ?_
                intro V5 a7 n7 c7 a8 n8 c8 hV5
                have HE : Hid (k + 1 ≤ nu ∧ Below J1.heap.size J1 V5) := ⟨HKQ.out, below_tr HK.out.2 hV5⟩
                clear hV5 HP HRL HRP HB4 hcz
                go_wp2
                go_roundw
                case rel => exact ⟨k + 1, by simp, HE.out⟩
                case measure =>
                  have := HKQ.out
                  simp only [intOf]
                  omega
      · have HQ : Hid (i < n) := by have := HI.out.1; show _ < _; omega
        have q1 : (i : Int) < (n : Int) := by have := HQ.out; omega
        have q2 : i < n := HQ.out
        obtain ⟨ab, off, ha, hbl, hc⟩ := HL.out.2.2.2 (by omega)
        subst ha
        obtain ⟨x, hx⟩ : ∃ x, l[i]? = some x := ⟨_, List.getElem?_eq_getElem (by rw [HL.out.1]; exact q2)⟩
        have hr : wr.rangeAt ab (off + i * 5) x.cells := rangeAt_same (hc i x hx) (HI.out.2.bw.block ab hbl)
        have HR : Hid (wr.rangeAt ab (off + i * 5) x.cells) := hr
        have HOK : Hid (x.ok) := HL.out.2.2.1 x (List.mem_of_getElem? hx)
        clear hi hc hx hbl hr
        go_wp2_with (with_reducible change wpList _ _ _ ({ dst := some 24, op := _, type := _, pos := _, after := _, guard := _ } :: _) _ _; refine Hid.out ?_)
        show wpList _ _ _ _ _ _
        refine wpList_load_want rfl 32 (.tmp 23) rfl ab (off + i * 5) rfl x.cells _ HR.out Try.underlying32 rfl size32 ?_
        simp only [Act.put, List.setIfInBounds_toArray, List.set_cons_zero, List.set_cons_succ]
        obtain ⟨g6, hg6⟩ : ∃ g, wr.heap.size = g := ⟨_, rfl⟩
        go_wp2_with (with_reducible change wpList _ _ _ ({ dst := none, op := Op.store 32 _ _, type := _, pos := _, after := _, guard := _ } :: _) _ _; refine Hid.out ?_)
        show wpList _ _ _ _ _ _
        refine wpList_store_blk rfl 32 (.tmp 6) (.tmp 24) rfl g6 0 32 [iv 0, .string ⟨#[]⟩, .string ⟨#[]⟩, .string ⟨#[]⟩, iv 0] x.cells rfl rfl (by rw [← hg6]; exact Blk.new wr _ _) (by simp [Av.cells]) size32 (Av.one x) ?_
        intro V1 hb5' hg5
        have hV : Below wr.heap.size wr V1 := (below_al wr _).grown hg5.out (below_al wr _).size (fun j hj => by cases hj; omega)
        have H1 : Hid (PI w p b4 V1 M R uv ov fv i ∧ Blk V1 g6 32 x.cells ∧ g6 ∉ M.bl p ∧ b4 < g6) := ⟨HI.out.2.below hV, hb5'.out, fun e => by have := HI.out.2.pb.1.hp.lt _ e; omega, by rw [← hg6]; exact HI.out.2.blk.lt⟩
        clear hb5' hg5 hV hg6 HR HI
        go_wp2_with (with_reducible change wpList _ _ _ ({ dst := some 26, op := _, type := _, pos := _, after := _, guard := _ } :: _) _ _; refine Hid.out ?_)
        show wpList _ _ _ _ _ _
        refine wpList_load_want rfl 32 (.tmp 6) rfl g6 0 rfl x.cells _ (by have := H1.out.2.1.range 0 5; simpa [Av.cells] using this) Try.underlying32 rfl size32 ?_
        simp only [Act.put, List.setIfInBounds_toArray, List.set_cons_zero, List.set_cons_succ]
        obtain ⟨E, hE⟩ : ∃ E, doE M x = E := ⟨_, rfl⟩
        have HDO : Calls Try.prog 11 #[.pointer (some ⟨p, 0, none⟩), .agg x.cells.toArray] V1 fun e w' => e = .returned (iv (doE M x)) ∧ ∃ M', PAfter V1 p M M' w' ∧ Hid (Did M x M') := do_is H1.out.1.pb.1 x HOK.out
        rw [hE] at HDO
        go_wp2_with fail
        refine HDO.mono ?_
        rintro e V2 ⟨rfl, M2, ha2, hd2⟩
        obtain ⟨ua, uc, hu0, _⟩ := H1.out.1.rp.u
        subst hu0
        obtain ⟨oa, oc, ho0, _⟩ := H1.out.1.rp.o
        subst ho0
        obtain ⟨fa, fc, hf0, _⟩ := H1.out.1.rp.f
        subst hf0
        obtain ⟨q, hq⟩ : ∃ q, rModel R x = q := ⟨_, rfl⟩
        obtain ⟨R2, E2⟩ := q
        have hst := H1.out.1.rel.step H1.out.1.pb.1.nd x hd2.out
        rw [hq, hE] at hst
        obtain ⟨hst1, hst2⟩ := hst
        have hst1 : E2 = E := hst1
        subst hst1
        have H2 : Hid (PB w.heap.size V2 p M2 ∧ Sh M2 ∧ Below w.heap.size w V2 ∧ Blk V2 g6 32 x.cells ∧ Blk V2 b4 30 [.slice ua R.U.length uc, .slice oa R.O.length oc, .slice fa R.F.length fc] ∧ RPt V2 (.slice ua R.U.length uc) (.slice oa R.O.length oc) (.slice fa R.F.length fc) R ∧ Rel M2 R2 ∧ b4 ∉ M2.bl p ∧ R2.F.length ≤ i + 1 ∧ R.F.length ≤ 990 ∧ w.heap.size ≤ b4) := by
          obtain ⟨h1, h2⟩ := ha2.toB H1.out.1.pb
          have hl := model_len R x
          rw [hq] at hl
          have hl : R2.F.length ≤ R.F.length + 1 := hl
          have h200 := HN2.out
          have hlen := H1.out.1.len
          refine ⟨h1, hd2.out.sh H1.out.1.sh HOK.out, H1.out.1.bw.trans h2, ha2.2.2.blk H1.out.2.1 H1.out.2.2.1, ha2.2.2.blk H1.out.1.blk H1.out.1.far, rp_far H1.out.1.rp H1.out.1.pb.1 ha2.2.2, hst2, fun e => ?_, by omega, by have := HQ.out; omega, H1.out.1.up⟩
          rcases ha2.2.1 b4 e with e | e
          · exact H1.out.1.far e
          · have := H1.out.1.blk.lt
            omega
        have HG : Hid (b4 < g6) := H1.out.2.2.2
        have HMD := rmodel_is H2.out.2.2.2.2.2.1 H2.out.2.2.2.2.2.2.2.2.2.1 x HOK.out
        rw [hq] at HMD
        clear HDO ha2 hd2 hst2 hq hE H1
        go_wp2_with (with_reducible change wpList _ _ _ ({ dst := some 29, op := _, type := _, pos := _, after := _, guard := _ } :: _) _ _; refine Hid.out ?_)
        show wpList _ _ _ _ _ _
        refine wpList_load_row rfl 30 (.tmp 4) rfl b4 rfl 30 #[.slice ua R.U.length uc, .slice oa R.O.length oc, .slice fa R.F.length fc] (0, 0) _ H2.out.2.2.2.2.1 Try.underlying30 rfl size30 ?_
        simp only [Act.put, List.setIfInBounds_toArray, List.set_cons_zero, List.set_cons_succ]
        go_wp2_with (with_reducible change wpList _ _ _ ({ dst := some 30, op := _, type := _, pos := _, after := _, guard := _ } :: _) _ _; refine Hid.out ?_)
        show wpList _ _ _ _ _ _
        refine wpList_load_want rfl 32 (.tmp 6) rfl g6 0 rfl x.cells _ (by have := H2.out.2.2.2.1.range 0 5; simpa [Av.cells] using this) Try.underlying32 rfl size32 ?_
        simp only [Act.put, List.setIfInBounds_toArray, List.set_cons_zero, List.set_cons_succ]
        go_wp2_with fail
        refine HMD.mono ?_
        rintro e V3 ⟨uv, ov, fv, rfl, HO⟩
        clear HMD
        go_wp2_with (with_reducible change wpList _ _ _ ({ dst := none, op := Op.store 30 _ _, type := _, pos := _, after := _, guard := _ } :: _) _ _; refine Hid.out ?_)
        show wpList _ _ _ _ _ _
        refine wpList_store_blk rfl 30 (.tmp 4) (.tmp 32) rfl b4 0 30 [.slice ua R.U.length uc, .slice oa R.O.length oc, .slice fa R.F.length fc] [uv, ov, fv] rfl rfl (H2.out.2.2.2.2.1.below HO.out.2 H2.out.2.2.2.2.1.lt) (by simp) size30 (three HO.out.1) ?_
        intro V4 hb4 hg4
        have H4 : Hid (PI w p b4 V4 M2 R2 uv ov fv (i + 1) ∧ Blk V4 g6 32 x.cells) := by
          have h := H2.out
          have hb3 := h.2.2.2.2.1.below HO.out.2 h.2.2.2.2.1.lt
          have hk : Keep (fun k => k = b4) V3 V4 := Keep.grown (S := fun k => k = b4) hg4.out rfl
          have hbw := below_tr h.2.2.1 HO.out.2
          refine ⟨⟨⟨(h.1.1.below HO.out.2).keep hk (fun k hk2 e => h.2.2.2.2.2.2.2.1 (by rw [← e]; exact hk2)), h.1.2.1, Nat.le_trans (Nat.le_trans h.1.2.2 HO.out.2.size) hk.size⟩, h.2.1, hbw.grown hg4.out hbw.size (fun j hj => by cases hj; exact h.2.2.2.2.2.2.2.2.2.2), by simpa using hb4.out, rp_other HO.out.1 hb3 hg4.out, h.2.2.2.2.2.2.1, h.2.2.2.2.2.2.2.2.1, h.2.2.2.2.2.2.2.1, h.2.2.2.2.2.2.2.2.2.2⟩, (h.2.2.2.1.below HO.out.2 h.2.2.2.1.lt).kept hg4.out (fun e => by have := HG.out; cases e; omega)⟩
        clear hb4 hg4 HO H2 HG
        obtain ⟨ua2, uc2, hu0, _⟩ := H4.out.1.rp.u
        subst hu0
        obtain ⟨oa2, oc2, ho0, _⟩ := H4.out.1.rp.o
        subst ho0
        obtain ⟨fa2, fc2, hf0, _⟩ := H4.out.1.rp.f
        subst hf0
        have HP : Hid (PAt V4 p M2 ∧ Sh M2) := ⟨H4.out.1.pb.1, H4.out.1.sh⟩
        have HRL : Hid (Rel M2 R2 ∧ Nd M2 ∧ R2.F.length ≤ 990) := ⟨H4.out.1.rel, H4.out.1.pb.1.nd, by have h1 := H4.out.1.len; have h2 := HN2.out; have h3 := HQ.out; omega⟩
        have HRP : Hid (RPt V4 (.slice ua2 R2.U.length uc2) (.slice oa2 R2.O.length oc2) (.slice fa2 R2.F.length fc2) R2) := H4.out.1.rp
        have HSU : Hid (StrAt V4 ua2 R2.U.length (usersL M2) ∧ StrAt V4 oa2 R2.O.length (orgsL M2)) := ⟨(sv_str H4.out.1.rp.u).cast H4.out.1.rel.U, (sv_str H4.out.1.rp.o).cast H4.out.1.rel.O⟩
        have HB4 : Hid (Blk V4 b4 30 [.slice ua2 R2.U.length uc2, .slice oa2 R2.O.length oc2, .slice fa2 R2.F.length fc2]) := H4.out.1.blk
        have HG6 : Hid (Blk V4 g6 32 x.cells) := H4.out.2
        simp only [Act.put, List.setIfInBounds_toArray, List.set_cons_zero, List.set_cons_succ]
        go_wp2_with fail
        refine pl10 HP HRL HRP HSU HB4 HG6 HOK ?_
        intro V5 a1 n1 c1 a2 n2 c2 a3 n3 c3 a4 n4 c4 a5 n5 c5 a6 n6 c6 a7 n7 c7 a8 n8 c8 hV5
        have HE : Hid (i + 1 ≤ n ∧ PI w p b4 V5 M2 R2 (.slice ua2 R2.U.length uc2) (.slice oa2 R2.O.length oc2) (.slice fa2 R2.F.length fc2) (i + 1)) := ⟨HQ.out, H4.out.1.below hV5⟩
        clear hV5 H4 HP HRL HRP HSU HB4 HG6
        go_wp2
        go_roundw
        case rel => exact ⟨i + 1, M2, R2, _, _, _, by simp, HE.out⟩
        case measure =>
          have := HQ.out
          simp only [intOf]
          omega
#print axioms plays_law
end Go.Proofs.Ytfickhhfhdhcbaa.Oct
