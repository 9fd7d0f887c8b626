/-
  Layer 20 (review): ReviewVotes.
-/
import Derived.Test.YtaecigpjcbjcbaaVtP
import Derived.Test.YtaecigpjcbjcbaaOpL
namespace Go.Proofs.Ytaecigpjcbjcbaa.Oct
open Go.RowKit
set_option linter.unusedSimpArgs false
set_option linter.unusedVariables false

def h0 : Hs := List.replicate 32 0
theorem run_build32_0 (W : World) : (Instr.build 32 #[]).run Try.prog W = .ok (.agg (U h0).toArray) W := by kernel_rfl
theorem wpList_b0 {ops : Array Oper} {rest : List Oper} {o : Oper} {a : Act} {w : World} {Q : Exit → Act → World → Prop} (hg : o.guard = none) (t : TypeId) (ho : o.op = .build t #[]) (v : Value) (hr : (Instr.build t #[]).run Try.prog w = .ok v w)
    (h : wpList Try.prog ops Q rest (a.put o.dst v) w) : wpList Try.prog ops Q (o :: rest) a w := by
  refine wpList_plain hg fun K hK => ?_
  unfold Oper.wp execOp
  simp only [ho, Sem.run_bind, Sem.run_pure, Result.andThen_ok, List.map_toArray, List.map_nil, hr]
  exact hK _ _ h
theorem inf_ex {t : Nat} (h : (Try.prog.info? (Try.prog.elem t)).map (·.size) = some 1) (hu : Try.prog.underlying t = some (.slice (Try.prog.elem t))) : ∃ i : TypeInfo, Try.prog.underlying t = some (.slice (Try.prog.elem t)) ∧ Try.prog.info? (Try.prog.elem t) = some i ∧ i.size = 1 := by
  obtain ⟨i, h1, h2⟩ := Option.map_eq_some_iff.1 h
  exact ⟨i, hu, h1, h2⟩
set_option maxRecDepth 100000 in
set_option maxHeartbeats 16000000 in
theorem votes_law (l : List ActV) (a : Option Addr) (n cp : Nat) (au : BA) (w : World) (hl : ArgA w a n cp l) (hau : au.size ≤ 140737488355328) :
    Calls Try.prog 5 #[.slice a n cp, .string au] w fun e w' => e = .returned (.bool true) ∧ Below w.heap.size w w' := by
  have HFEW := few_is l a n cp w hl
  have HL : Hid (ArgA w a n cp l) := hl
  have qn : (n : Int) ≤ 140737488355328 := by have := hl.2.1; omega
  have qau : (au.size : Int) ≤ 140737488355328 := by omega
  have HLV := fun W => lives_is W
  obtain ⟨Z, hZ, hz⟩ := zero34_ex
  have HZ : Hid (Z.length = 37) := hZ
  obtain ⟨Z43, hZ43⟩ : ∃ Z, Pp.zero.cells = Z := ⟨_, rfl⟩
  have hz43 := zero43
  rw [hZ43] at hz43
  have HZ43 : Hid (Z43.length = 39) := by show _ = _; rw [← hZ43]; exact zero_len
  obtain ⟨UH, hUH⟩ : ∃ L, (U h0).toArray = L := ⟨_, rfl⟩
  have HUH : Hid ((U h0).toArray = UH) := hUH
  obtain ⟨i40, hi40⟩ := inf_ex (t := 40) (by kernel_rfl) (by kernel_rfl)
  obtain ⟨i59, hi59⟩ := inf_ex (t := 59) (by kernel_rfl) (by kernel_rfl)
  have HU40 : Hid (Try.prog.underlying 40 = some (.slice (Try.prog.elem 40)) ∧ Try.prog.info? (Try.prog.elem 40) = some i40 ∧ i40.size = 1) := hi40
  have HU59 : Hid (Try.prog.underlying 59 = some (.slice (Try.prog.elem 59)) ∧ Try.prog.info? (Try.prog.elem 59) = some i59 ∧ i59.size = 1) := hi59
  clear hl hZ hZ43 hUH hau hi40 hi59
  go_enter Try.func5, Try.ntmps5
  go_wp2_with fail
  refine HFEW.mono ?_
  rintro e w1 ⟨r, rfl, hr, hb1⟩
  have HB1 : Hid (Below w.heap.size w w1) := hb1
  cases r with
  | false =>
    have HLW := HLV w1
    clear HFEW hr hb1
    go_wp2_with fail
    refine HLW.mono ?_
    rintro e w2 ⟨rfl, hb2⟩
    have HB2 : Hid (Below w.heap.size w w2) := below_tr HB1.out hb2
    clear HLW hb2
    go_wp2_with fail
    go_ret
    exact ⟨rfl, HB2.out⟩
  | true =>
    have HN : Hid (n ≤ 150) := hr rfl
    by_cases hlen : 300 < au.size
    · have q0 : (300 : Int) < (au.size : Int) := by omega
      have HLW := HLV w1
      clear HFEW hr hb1 hlen
      go_wp2_with fail
      refine HLW.mono ?_
      rintro e w2 ⟨rfl, hb2⟩
      have HB2 : Hid (Below w.heap.size w w2) := below_tr HB1.out hb2
      clear HLW hb2
      go_wp2_with fail
      go_ret
      exact ⟨rfl, HB2.out⟩
    · have q0 : (au.size : Int) ≤ (300 : Int) := by omega
      have HNEW := new_is w1
      clear HFEW hr hb1 hlen
      go_wp2_with fail
      refine HNEW.mono ?_
      rintro e w2 ⟨rfl, hB0, hb2⟩
      obtain ⟨b, hbb⟩ : ∃ b, w1.heap.size = b := ⟨_, rfl⟩
      rw [hbb] at hB0 ⊢
      have HP := propose_is hB0 (by omega) au mainS h0 (by simp [h0])
      have HW1 : Hid (Below w.heap.size w w2 ∧ w.heap.size ≤ b) := ⟨below_tr HB1.out hb2, by rw [← hbb]; exact HB1.out.size⟩
      rw [HUH.out, show mainS = (⟨#[109, 97, 105, 110]⟩ : ByteArray) from rfl] at HP
      clear HNEW hb2 hbb hB0
      go_wp2_with (with_reducible change wpList _ _ _ ({ dst := some 34, op := _, type := _, pos := _, after := _, guard := _ } :: _) _ _; refine Hid.out ?_)
      show wpList _ _ _ _ _ _
      refine wpList_b0 rfl 32 rfl (.agg UH) (by rw [← HUH.out]; exact run_build32_0 _) ?_
      simp only [Act.put, List.setIfInBounds_toArray, List.set_cons_zero, List.set_cons_succ]
      go_wp2_with fail
      refine HP.mono ?_
      rintro e w3 ⟨M', hB2, hAf, hcase⟩
      rcases hcase with ⟨hc, _⟩ | ⟨_, hc, _⟩ | ⟨_, _, ⟨v7, v9, mb, rfl⟩, he⟩
      · simp at hc
      · simp at hc
      have he' : e = .returned (.tuple #[iv 1, iv 0]) := he
      subst he'
      obtain ⟨P0, hP0⟩ : ∃ P0, Pr.new au (⟨#[109, 97, 105, 110]⟩ : ByteArray) h0 mb = P0 := ⟨_, rfl⟩
      rw [hP0] at hB2 hAf
      obtain ⟨M2, hM2⟩ : ∃ M2, Br.with ⟨.slice none 0 0, .slice none 0 0, [], []⟩ v7 v9 P0 = M2 := ⟨_, rfl⟩
      rw [hM2] at hB2 hAf
      have hOM : OM M2 au [] := by rw [← hM2, ← hP0]; exact ⟨_, rfl, rfl, rfl, rfl⟩
      have HI0 : Hid (VI w w3 b M2 (0 + 1) [] (.slice none 0 0) (.slice none 0 0) ∧ OM M2 au [] ∧ Rv au [] []) := by
        have h0 := hAf.below (B := w.heap.size) HW1.out.1.size (by intro k hk; simp [Br.bl, Value.ownBlock] at hk; rw [hk]; exact HW1.out.2)
        exact ⟨⟨hB2, HW1.out.1.trans h0.1, h0.2, OT.nil _ _ _, OT.nil _ _ _, (fun k hk => by cases hk), (fun k hk => by cases hk), (fun k hk => by cases hk), Nat.zero_le _⟩, hOM, Rv.nil au⟩
      clear HP hB2 hAf he hM2 hP0 hOM
      go_wp2
      have hd : decide ((300 : Int) < (au.size : Int)) = false := decide_eq_false (by omega)
      simp only [hd]
      clear hd
      go_loopw [46, 8, 9] (fun u v8 v9 wr => ∃ (i : Nat) (M : Br) (zl : List (BA × Bool)) (vs : List (Hs × Int)), u = iv i ∧ i ≤ n ∧ Hid (VI w wr b M (i + 1) zl v8 v9 ∧ OM M au vs ∧ Rv au vs zl)) (fun u _ _ _ => n - (intOf u).toNat)
      case atStart => exact ⟨0, M2, [], [], rfl, Nat.zero_le _, HI0.out⟩
      case round =>
        obtain ⟨i, M, zl, vs, rfl, hin, HI⟩ := hrel
        by_cases hi : i = n
        · have q1 : (n : Int) ≤ (i : Int) := by omega
          have HLW := HLV wr
          clear hi hin
          go_wp2_with fail
          refine HLW.mono ?_
          rintro e w9 ⟨rfl, hb9⟩
          have HB9 : Hid (Below w.heap.size w w9) := below_tr HI.out.1.bel hb9
          clear HLW hb9
          go_wp2_with fail
          go_ret
          exact ⟨rfl, HB9.out⟩
        · have q2 : i < n := by omega
          have q1 : (i : Int) < (n : Int) := by omega
          obtain ⟨ab, off, ha, hbl, hc⟩ := HL.out.2.2.2 (by omega)
          subst ha
          obtain ⟨x, hx⟩ : ∃ x, l[i]? = some x := ⟨_, List.getElem?_eq_getElem (by rw [HL.out.1]; exact q2)⟩
          have hok := HL.out.2.2.1 x (List.mem_of_getElem? hx)
          have hr : wr.rangeAt ab (off + i * 37) x.cells := rangeAt_same (hc i x hx) (HI.out.1.bel.block ab hbl)
          obtain ⟨cx, hcx⟩ : ∃ cx, x.cells = cx := ⟨_, rfl⟩
          have HCX : Hid (wr.rangeAt ab (off + i * 37) cx ∧ cx.length = 37 ∧ (∀ v ∈ cx, v.oneCell' = true) ∧ x.cells = cx) := by rw [← hcx]; exact ⟨hr, ActV.length hok.2.2.2.2, ActV.one x, rfl⟩
          have HOK : Hid x.ok := hok
          have HQ : Hid (i < n) := q2
          have HI9 : Hid (i + 1 + 1 ≤ 1000) := by show _ ≤ _; have := HN.out; omega
          obtain ⟨a8, k8, a9, k9, hv8, hv9, hk8, hk9⟩ := HI.out.1.read
          subst hv8
          subst hv9
          obtain ⟨m, hm⟩ : ∃ m, zl.length = m := ⟨_, rfl⟩
          rw [hm] at HI hk8 hk9 ⊢
          have HM : Hid (zl.length = m ∧ m ≤ k8 ∧ m ≤ k9) := ⟨hm, hk8, hk9⟩
          have qm : (m : Int) ≤ 1000 := by have h1 := HM.out.1; have h2 := HI.out.1.nz; have h3 := HI9.out; omega
          clear hi hc hx hbl hr hok hcx hin hm hk8 hk9
          go_wp2_with (with_reducible change wpList _ _ _ ({ dst := some 49, op := _, type := _, pos := _, after := _, guard := _ } :: _) _ _; refine Hid.out ?_)
          show wpList _ _ _ _ _ _
          refine wpList_load_want rfl 34 (.tmp 48) rfl ab (off + i * 37) rfl cx _ HCX.out.1 Try.underlying34 rfl (by rw [HCX.out.2.1]; exact size34) ?_
          simp only [Act.put, List.setIfInBounds_toArray, List.set_cons_zero, List.set_cons_succ]
          go_wp2_with (with_reducible change wpList _ _ _ ({ dst := none, op := Op.store _ _ _, type := _, pos := _, after := _, guard := _ } :: _) _ _; refine Hid.out ?_)
          show wpList _ _ _ _ _ _
          refine wpList_store_blk rfl 34 (.tmp 11) (.tmp 49) rfl wr.heap.size 0 34 Z cx rfl rfl (by simpa using Blk.new wr Z.toArray 34) (by rw [HZ.out, HCX.out.2.1]; omega) (by rw [HCX.out.2.1]; exact size34) HCX.out.2.2.1 ?_
          intro V1 hb5 hg5
          obtain ⟨g, hg⟩ : ∃ g, wr.heap.size = g := ⟨_, rfl⟩
          rw [hg] at hb5 hg5 ⊢
          have hV1 : Below wr.heap.size wr V1 := (below_al wr _).grown hg5.out (below_al wr _).size (fun j hj => by cases hj; exact Nat.le_of_eq hg)
          have hbk : Blk V1 g 34 x.cells := by
            have := hb5.out
            rw [List.take_zero, List.nil_append, List.drop_of_length_le (by rw [HZ.out, HCX.out.2.1]; omega), List.append_nil] at this
            rw [HCX.out.2.2.2]
            exact this
          have HGV : Hid (¬ SV (.slice a8 m k8) (.slice a9 m k9) g ∧ g ∉ M.bl b) := by
            refine ⟨fun hs => ?_, fun hm => by have := HI.out.1.brd.lt g hm; omega⟩
            rcases hs with e | e
            · have := (HI.out.1.r8.lt e).2; omega
            · have := (HI.out.1.r9.lt e).2; omega
          have HV1 : Hid (VI w V1 b M (i + 1) zl (.slice a8 m k8) (.slice a9 m k9) ∧ Blk V1 g 34 x.cells) := ⟨HI.out.1.below hV1, hbk⟩
          have HF0 : Hid (Fd zl x.user 0 (iv (-1))) := .inl ⟨rfl, fun k z hk => absurd hk (by omega)⟩
          clear hb5 hg5 hg hV1 hbk
          go_wp2
          go_loopw [52, 12] (fun u v12 W => ∃ j : Nat, u = iv j ∧ Hid (j ≤ m ∧ Fd zl x.user j v12 ∧ VI w W b M (i + 1) zl (.slice a8 m k8) (.slice a9 m k9) ∧ Blk W g 34 x.cells)) (fun u _ _ => m - (intOf u).toNat)
          case atStart => exact ⟨0, rfl, Nat.zero_le _, HF0.out, HV1.out⟩
          case round =>
            obtain ⟨j, rfl, HJ⟩ := hrel
            by_cases hj : j = m
            · have q4 : (m : Int) ≤ (j : Int) := by omega
              have HV4 : Hid (VI w wr b M (i + 1) zl (.slice a8 m k8) (.slice a9 m k9) ∧ Blk wr g 34 x.cells) := HJ.out.2.2
              obtain ⟨c0, _, c2, _, _, c36⟩ := ActV.cell (o := 0) HOK.out.2.2.2.2 HV4.out.2.range0
              rw [Nat.zero_add] at c2 c36
              have hF := HJ.out.2.1
              rw [hj] at hF
              clear hj HJ
              rcases Fd.end HM.out.1 hF with ⟨rfl, hnot⟩ | ⟨k, z, hz, hzu, rfl, hkm⟩
              · have HNOT : Hid (x.user ∉ zl.map (·.1)) := hnot
                clear hF hnot
                by_cases k1 : x.kind = 1
                · have kk1 : (x.kind == 1) = true := by simp [k1]
                  by_cases hu : x.user = au
                  · have hbq : (x.user.toList == au.toList) = true := by rw [eq_iff]; simp [hu]
                    have hbn : (x.user.toList != au.toList) = false := by simp [bne, hbq]
                    have HCALL := vote_is HV4.out.1.brd HI9.out 1 x.user HOK.out.2.2.1 x.yes
                    have e1 : M.vote 1 x.user x.yes = (M, 200) := by rw [hu]; exact HI.out.2.1.vote_own x.yes
                    rw [e1] at HCALL
                    clear e1 hu
                    go_wp2_with fail
                    refine HCALL.mono ?_
                    rintro e V5 ⟨rfl, hB5, hA5⟩
                    have hbk5 : Blk V5 g 34 x.cells := (hA5.other HV4.out.2.lt HGV.out.2).1.trans HV4.out.2
                    obtain ⟨_, _, d2, _, _, d36⟩ := ActV.cell (o := 0) HOK.out.2.2.2.2 hbk5.range0
                    rw [Nat.zero_add] at d2 d36
                    have HO : Hid (VI w V5 b M (i + 1 + 1) zl (.slice a8 m k8) (.slice a9 m k9) ∧ OM M au vs ∧ Rv au vs zl) := ⟨HV4.out.1.call hB5 hA5, HI.out.2⟩
                    have HM2 : Hid (zl.length = m) := HM.out.1
                    clear HCALL hB5 hA5 hbk5 c0 c2 c36
                    have HT0 : Hid (TS V5 (.slice none 0 0) (foldW (side ((zl).take 0) true)) ∧ TS V5 (.slice none 0 0) (foldW (side ((zl).take 0) false))) := ⟨.inl ⟨rfl, rfl⟩, .inl ⟨rfl, rfl⟩⟩
                    have qm2 : (m : Int) ≤ 1000 := by have h1 := HM2.out; have h2 := HO.out.1.nz; have h3 := HI9.out; omega
                    have HZN : Hid (∀ so j, (foldW (side ((zl).take j) so)).length ≤ 1000) := fun so j => (fold_small HO.out.1.nz HI9.out so j).1
                    go_wp2
                    go_loopw [141, 16, 17] (fun u v16 v17 W => ∃ j : Nat, u = iv j ∧ Hid (j ≤ m ∧ VI w W b M (i + 1 + 1) (zl) (.slice a8 m k8) (.slice a9 m k9) ∧ TS W v16 (foldW (side ((zl).take j) true)) ∧ TS W v17 (foldW (side ((zl).take j) false)))) (fun u _ _ _ => m - (intOf u).toNat)
                    case atStart => exact ⟨0, rfl, Nat.zero_le _, HO.out.1, HT0.out⟩
                    case round =>
                      obtain ⟨j, rfl, HJ⟩ := hrel
                      by_cases hj : j = m
                      · have q5 : (m : Int) ≤ (j : Int) := by omega
                        have HTT : Hid (TS wr u16 (foldW (side (zl) true)) ∧ TS wr u17 (foldW (side (zl) false))) := ⟨HJ.out.2.2.1.all hj HM2.out, HJ.out.2.2.2.all hj HM2.out⟩
                        have HLN : Hid ((foldW (side (zl) true)).length ≤ 1000 ∧ (foldW (side (zl) false)).length ≤ 1000) := ⟨(fold_small HO.out.1.nz HI9.out true 0).2, (fold_small HO.out.1.nz HI9.out false 0).2⟩
                        have HPR := proposal_is HJ.out.2.1.brd 1
                        clear hj
                        go_wp2_with fail
                        refine HPR.mono ?_
                        rintro e V2 ⟨pp, is, rfl, htold, hb2⟩
                        obtain ⟨p, hat, _, _, hvs⟩ := HO.out.2.1.at
                        unfold ToldB at htold
                        rw [hat] at htold
                        obtain ⟨rfl, y, nn, t, hpp, hpl, hy, hno, _⟩ := htold
                        have HNM : Hid (Strs V2 y.a y.n (foldW (side (zl) true)) ∧ Strs V2 nn.a nn.n (foldW (side (zl) false))) := HO.out.2.2.names hvs hy hno
                        obtain ⟨cpp, hcpp⟩ : ∃ c, pp.cells = c := ⟨_, rfl⟩
                        have HP : Hid (cpp.length = 39 ∧ (∀ v ∈ cpp, v.oneCell' = true) ∧ cpp[36]? = some (.slice y.a y.n y.c) ∧ cpp[37]? = some (.slice nn.a nn.n nn.c)) := by
                          rw [← hcpp, hpp]; exact ⟨Pp.length hpl, Pp.one _, Pp.tail hpl 1, Pp.tail hpl 2⟩
                        rw [hcpp]
                        clear HPR hpp hcpp hy hno hat hvs hpl
                        go_wp2_with (with_reducible change wpList _ _ _ ({ dst := none, op := Op.store _ _ _, type := _, pos := _, after := _, guard := _ } :: _) _ _; refine Hid.out ?_)
                        show wpList _ _ _ _ _ _
                        refine wpList_store_blk rfl 43 (.tmp 19) (.tmp 164) rfl V2.heap.size 0 43 Z43 cpp rfl rfl (by simpa using Blk.new V2 Z43.toArray 43) (by rw [HZ43.out, HP.out.1]; omega) (by rw [HP.out.1]; exact size43) HP.out.2.1 ?_
                        intro V3 hb5 hg5
                        have hV3 : Below V2.heap.size V2 V3 := (below_al V2 _).grown hg5.out (below_al V2 _).size (fun j hj => by cases hj; exact Nat.le_refl _)
                        obtain ⟨g19, hg⟩ : ∃ g, V2.heap.size = g := ⟨_, rfl⟩
                        rw [hg] at hb5 ⊢
                        have hbk : Blk V3 g19 43 cpp := by
                          have := hb5.out
                          rw [List.take_zero, List.nil_append, List.drop_of_length_le (by rw [HZ43.out, HP.out.1]; omega), List.append_nil] at this
                          exact this
                        have h23 := below_tr hb2 hV3
                        have HV3 : Hid (VI w V3 b M (i + 1 + 1) (zl) (.slice a8 m k8) (.slice a9 m k9) ∧ Blk V3 g19 43 cpp) := ⟨HJ.out.2.1.below h23, hbk⟩
                        obtain ⟨s16, hs16, hst16, hx16⟩ := (HTT.out.1.below h23).sl
                        obtain ⟨s17, hs17, hst17, hx17⟩ := (HTT.out.2.below h23).sl
                        subst hs16
                        subst hs17
                        have HST : Hid (Strs V3 s17.a s17.n (foldW (side (zl) false)) ∧ Strs V3 nn.a nn.n (foldW (side (zl) false))) := ⟨hst17, HNM.out.2.below hV3⟩
                        have HTX := texts_same _ y s16 V3 (HNM.out.1.below hV3) hst16 (by have := HLN.out.1; omega)
                        have e36 : V3.cell? ⟨g19, 36, none⟩ = some (.slice y.a y.n y.c) := hbk.cell HP.out.2.2.1
                        clear hb2 hb5 hg5 hV3 hg hbk h23 hst16 hst17 hx16 hx17
                        go_wp2_with fail
                        refine HTX.mono ?_
                        rintro e V4 ⟨rfl, hb4⟩
                        have HV4' : Hid (VI w V4 b M (i + 1 + 1) (zl) (.slice a8 m k8) (.slice a9 m k9)) := HV3.out.1.below hb4
                        have HTX2 := texts_same _ nn s17 V4 (HST.out.2.below hb4) (HST.out.1.below hb4) (by have := HLN.out.2; omega)
                        have e37 : V4.cell? ⟨g19, 37, none⟩ = some (.slice nn.a nn.n nn.c) := (HV3.out.2.below hb4 HV3.out.2.lt).cell HP.out.2.2.2
                        clear HTX hb4 e36
                        go_wp2_with fail
                        refine HTX2.mono ?_
                        rintro e V5' ⟨rfl, hb5⟩
                        have HX5 : Hid (VI w V5' b M (i + 1 + 1) (zl) (.slice a8 m k8) (.slice a9 m k9) ∧ OM M au vs ∧ Rv au vs (zl)) := ⟨HV4'.out.below hb5, HO.out.2⟩
                        clear HTX2 hb5 e37
                        go_wp2
                        go_roundw
                        case rel => exact ⟨i + 1, M, zl, vs, by simp, HQ.out, HX5.out⟩
                        case measure =>
                          have := HQ.out
                          simp only [intOf]
                          omega
                      · have HJM : Hid (j < m) := by have := HJ.out.1; show _ < _; omega
                        have q5 : (j : Int) < (m : Int) := by have := HJM.out; omega
                        obtain ⟨z', hz'⟩ : ∃ zz, (zl)[j]? = some zz := ⟨_, List.getElem?_eq_getElem (by rw [HM2.out]; exact HJM.out)⟩
                        obtain ⟨g8, g9, e8, e9, _, _, d8, d9⟩ := HJ.out.2.1.at hz'
                        cases e8
                        cases e9
                        have HZJ : Hid ((zl)[j]? = some z') := hz'
                        clear hj hz'
                        cases hzb : z'.2
                        · rw [hzb] at d9
                          have HW := with_is z'.1 _ u17 wr HJ.out.2.2.2 (HZN.out _ _)
                          have HZB : Hid (z'.2 = false) := hzb
                          clear hzb
                          go_wp2_with fail
                          refine HW.mono ?_
                          rintro e W2 ⟨v', rfl, hts, hb2⟩
                          have HWV : Hid _ := HJ.out.2.1.below hb2
                          have HW2 : Hid (TS W2 u16 (foldW (side ((zl).take (j + 1)) true)) ∧ TS W2 v' (foldW (side ((zl).take (j + 1)) false))) := ⟨(HJ.out.2.2.1.below hb2).other HZJ.out (by rw [HZB.out]; decide), hts.mine HZJ.out HZB.out⟩
                          clear HW hts hb2 d8 d9
                          go_wp2
                          go_roundw
                          case rel => exact ⟨j + 1, by simp, HJM.out, HWV.out, HW2.out⟩
                          case measure =>
                            have := HJM.out
                            simp only [intOf]
                            omega
                        · rw [hzb] at d9
                          have HW := with_is z'.1 _ u16 wr HJ.out.2.2.1 (HZN.out _ _)
                          have HZB : Hid (z'.2 = true) := hzb
                          clear hzb
                          go_wp2_with fail
                          refine HW.mono ?_
                          rintro e W2 ⟨v', rfl, hts, hb2⟩
                          have HWV : Hid _ := HJ.out.2.1.below hb2
                          have HW2 : Hid (TS W2 v' (foldW (side ((zl).take (j + 1)) true)) ∧ TS W2 u17 (foldW (side ((zl).take (j + 1)) false))) := ⟨hts.mine HZJ.out HZB.out, (HJ.out.2.2.2.below hb2).other HZJ.out (by rw [HZB.out]; decide)⟩
                          clear HW hts hb2 d8 d9
                          go_wp2
                          go_roundw
                          case rel => exact ⟨j + 1, by simp, HJM.out, HWV.out, HW2.out⟩
                          case measure =>
                            have := HJM.out
                            simp only [intOf]
                            omega
                  · have hbq : (x.user.toList == au.toList) = false := by rw [eq_iff]; simp [hu]
                    have hbn : (x.user.toList != au.toList) = true := by simp [bne, hbq]
                    have HCALL := vote_is HV4.out.1.brd HI9.out 1 x.user HOK.out.2.2.1 x.yes
                    obtain ⟨M', e1, hOM'⟩ := HI.out.2.1.vote hu x.yes
                    rw [e1] at HCALL
                    have HRV : Hid (OM M' au (turnV vs (bk x.user) (kOf x.yes)) ∧ Rv au (turnV vs (bk x.user) (kOf x.yes)) (zl ++ [(x.user, x.yes)])) := ⟨hOM', HI.out.2.2.new HNOT.out hu x.yes⟩
                    clear e1 hu hOM'
                    go_wp2_with fail
                    refine HCALL.mono ?_
                    rintro e V5 ⟨rfl, hB5, hA5⟩
                    have hbk5 : Blk V5 g 34 x.cells := (hA5.other HV4.out.2.lt HGV.out.2).1.trans HV4.out.2
                    obtain ⟨_, _, d2, _, _, d36⟩ := ActV.cell (o := 0) HOK.out.2.2.2.2 hbk5.range0
                    rw [Nat.zero_add] at d2 d36
                    have HV5 : Hid (VI w V5 b M' (i + 1 + 1) zl (.slice a8 m k8) (.slice a9 m k9)) := HV4.out.1.call hB5 hA5
                    have HGL : Hid (g < V5.heap.size ∧ ¬ SV (.slice a8 m k8) (.slice a9 m k9) g) := ⟨hbk5.lt, HGV.out.1⟩
                    have HR5 : Hid (R24 w.heap.size V5 V5 (.slice a8 m k8) (.slice a9 m k9) (.slice a8 m k8) (.slice a9 m k9) (z8 zl) (z9 zl) []) := HV5.out.r24
                    have HNN : Hid ((z8 zl).length + 1 ≤ 1000000 ∧ (z9 zl).length + 1 ≤ 1000000) := by
                      have h1 := HV5.out.nz
                      have h2 := HI9.out
                      exact ⟨by rw [z8_len]; omega, by rw [z9_len]; omega⟩
                    clear HCALL hB5 hA5 hbk5 c0 c2 c36
                    go_wp2_with fail
                    refine vot24 HGL d2 d36 HR5 HNN ?_
                    intro V6 q1 q2 w8 w9 hR6
                    have HX6 : Hid (VI w V6 b M' (i + 1 + 1) (zl ++ [(x.user, x.yes)]) w8 w9) := HV5.out.app (by have := HI.out.1.nz; omega) hR6
                    obtain ⟨b8, l8, b9, l9, hv8, hv9, _, _⟩ := HX6.out.read
                    subst hv8
                    subst hv9
                    obtain ⟨m2, hm2⟩ : ∃ m, (zl ++ [(x.user, x.yes)]).length = m := ⟨_, rfl⟩
                    rw [hm2] at HX6 ⊢
                    have HM2 : Hid ((zl ++ [(x.user, x.yes)]).length = m2) := hm2
                    have HO : Hid (VI w V6 b M' (i + 1 + 1) (zl ++ [(x.user, x.yes)]) (.slice b8 m2 l8) (.slice b9 m2 l9) ∧ OM M' au (turnV vs (bk x.user) (kOf x.yes)) ∧ Rv au (turnV vs (bk x.user) (kOf x.yes)) (zl ++ [(x.user, x.yes)])) := ⟨HX6.out, HRV.out⟩
                    clear hR6 HX6 hm2 d2 d36
                    have HT0 : Hid (TS V6 (.slice none 0 0) (foldW (side ((zl ++ [(x.user, x.yes)]).take 0) true)) ∧ TS V6 (.slice none 0 0) (foldW (side ((zl ++ [(x.user, x.yes)]).take 0) false))) := ⟨.inl ⟨rfl, rfl⟩, .inl ⟨rfl, rfl⟩⟩
                    have qm2 : (m2 : Int) ≤ 1000 := by have h1 := HM2.out; have h2 := HO.out.1.nz; have h3 := HI9.out; omega
                    have HZN : Hid (∀ so j, (foldW (side ((zl ++ [(x.user, x.yes)]).take j) so)).length ≤ 1000) := fun so j => (fold_small HO.out.1.nz HI9.out so j).1
                    go_wp2
                    go_loopw [141, 16, 17] (fun u v16 v17 W => ∃ j : Nat, u = iv j ∧ Hid (j ≤ m2 ∧ VI w W b M' (i + 1 + 1) (zl ++ [(x.user, x.yes)]) (.slice b8 m2 l8) (.slice b9 m2 l9) ∧ TS W v16 (foldW (side ((zl ++ [(x.user, x.yes)]).take j) true)) ∧ TS W v17 (foldW (side ((zl ++ [(x.user, x.yes)]).take j) false)))) (fun u _ _ _ => m2 - (intOf u).toNat)
                    case atStart => exact ⟨0, rfl, Nat.zero_le _, HO.out.1, HT0.out⟩
                    case round =>
                      obtain ⟨j, rfl, HJ⟩ := hrel
                      by_cases hj : j = m2
                      · have q5 : (m2 : Int) ≤ (j : Int) := by omega
                        have HTT : Hid (TS wr u16 (foldW (side (zl ++ [(x.user, x.yes)]) true)) ∧ TS wr u17 (foldW (side (zl ++ [(x.user, x.yes)]) false))) := ⟨HJ.out.2.2.1.all hj HM2.out, HJ.out.2.2.2.all hj HM2.out⟩
                        have HLN : Hid ((foldW (side (zl ++ [(x.user, x.yes)]) true)).length ≤ 1000 ∧ (foldW (side (zl ++ [(x.user, x.yes)]) false)).length ≤ 1000) := ⟨(fold_small HO.out.1.nz HI9.out true 0).2, (fold_small HO.out.1.nz HI9.out false 0).2⟩
                        have HPR := proposal_is HJ.out.2.1.brd 1
                        clear hj
                        go_wp2_with fail
                        refine HPR.mono ?_
                        rintro e V2 ⟨pp, is, rfl, htold, hb2⟩
                        obtain ⟨p, hat, _, _, hvs⟩ := HO.out.2.1.at
                        unfold ToldB at htold
                        rw [hat] at htold
                        obtain ⟨rfl, y, nn, t, hpp, hpl, hy, hno, _⟩ := htold
                        have HNM : Hid (Strs V2 y.a y.n (foldW (side (zl ++ [(x.user, x.yes)]) true)) ∧ Strs V2 nn.a nn.n (foldW (side (zl ++ [(x.user, x.yes)]) false))) := HO.out.2.2.names hvs hy hno
                        obtain ⟨cpp, hcpp⟩ : ∃ c, pp.cells = c := ⟨_, rfl⟩
                        have HP : Hid (cpp.length = 39 ∧ (∀ v ∈ cpp, v.oneCell' = true) ∧ cpp[36]? = some (.slice y.a y.n y.c) ∧ cpp[37]? = some (.slice nn.a nn.n nn.c)) := by
                          rw [← hcpp, hpp]; exact ⟨Pp.length hpl, Pp.one _, Pp.tail hpl 1, Pp.tail hpl 2⟩
                        rw [hcpp]
                        clear HPR hpp hcpp hy hno hat hvs hpl
                        go_wp2_with (with_reducible change wpList _ _ _ ({ dst := none, op := Op.store _ _ _, type := _, pos := _, after := _, guard := _ } :: _) _ _; refine Hid.out ?_)
                        show wpList _ _ _ _ _ _
                        refine wpList_store_blk rfl 43 (.tmp 19) (.tmp 164) rfl V2.heap.size 0 43 Z43 cpp rfl rfl (by simpa using Blk.new V2 Z43.toArray 43) (by rw [HZ43.out, HP.out.1]; omega) (by rw [HP.out.1]; exact size43) HP.out.2.1 ?_
                        intro V3 hb5 hg5
                        have hV3 : Below V2.heap.size V2 V3 := (below_al V2 _).grown hg5.out (below_al V2 _).size (fun j hj => by cases hj; exact Nat.le_refl _)
                        obtain ⟨g19, hg⟩ : ∃ g, V2.heap.size = g := ⟨_, rfl⟩
                        rw [hg] at hb5 ⊢
                        have hbk : Blk V3 g19 43 cpp := by
                          have := hb5.out
                          rw [List.take_zero, List.nil_append, List.drop_of_length_le (by rw [HZ43.out, HP.out.1]; omega), List.append_nil] at this
                          exact this
                        have h23 := below_tr hb2 hV3
                        have HV3 : Hid (VI w V3 b M' (i + 1 + 1) (zl ++ [(x.user, x.yes)]) (.slice b8 m2 l8) (.slice b9 m2 l9) ∧ Blk V3 g19 43 cpp) := ⟨HJ.out.2.1.below h23, hbk⟩
                        obtain ⟨s16, hs16, hst16, hx16⟩ := (HTT.out.1.below h23).sl
                        obtain ⟨s17, hs17, hst17, hx17⟩ := (HTT.out.2.below h23).sl
                        subst hs16
                        subst hs17
                        have HST : Hid (Strs V3 s17.a s17.n (foldW (side (zl ++ [(x.user, x.yes)]) false)) ∧ Strs V3 nn.a nn.n (foldW (side (zl ++ [(x.user, x.yes)]) false))) := ⟨hst17, HNM.out.2.below hV3⟩
                        have HTX := texts_same _ y s16 V3 (HNM.out.1.below hV3) hst16 (by have := HLN.out.1; omega)
                        have e36 : V3.cell? ⟨g19, 36, none⟩ = some (.slice y.a y.n y.c) := hbk.cell HP.out.2.2.1
                        clear hb2 hb5 hg5 hV3 hg hbk h23 hst16 hst17 hx16 hx17
                        go_wp2_with fail
                        refine HTX.mono ?_
                        rintro e V4 ⟨rfl, hb4⟩
                        have HV4' : Hid (VI w V4 b M' (i + 1 + 1) (zl ++ [(x.user, x.yes)]) (.slice b8 m2 l8) (.slice b9 m2 l9)) := HV3.out.1.below hb4
                        have HTX2 := texts_same _ nn s17 V4 (HST.out.2.below hb4) (HST.out.1.below hb4) (by have := HLN.out.2; omega)
                        have e37 : V4.cell? ⟨g19, 37, none⟩ = some (.slice nn.a nn.n nn.c) := (HV3.out.2.below hb4 HV3.out.2.lt).cell HP.out.2.2.2
                        clear HTX hb4 e36
                        go_wp2_with fail
                        refine HTX2.mono ?_
                        rintro e V5' ⟨rfl, hb5⟩
                        have HX5 : Hid (VI w V5' b M' (i + 1 + 1) (zl ++ [(x.user, x.yes)]) (.slice b8 m2 l8) (.slice b9 m2 l9) ∧ OM M' au (turnV vs (bk x.user) (kOf x.yes)) ∧ Rv au (turnV vs (bk x.user) (kOf x.yes)) (zl ++ [(x.user, x.yes)])) := ⟨HV4'.out.below hb5, HO.out.2⟩
                        clear HTX2 hb5 e37
                        go_wp2
                        go_roundw
                        case rel => exact ⟨i + 1, M', zl ++ [(x.user, x.yes)], (turnV vs (bk x.user) (kOf x.yes)), by simp, HQ.out, HX5.out⟩
                        case measure =>
                          have := HQ.out
                          simp only [intOf]
                          omega
                      · have HJM : Hid (j < m2) := by have := HJ.out.1; show _ < _; omega
                        have q5 : (j : Int) < (m2 : Int) := by have := HJM.out; omega
                        obtain ⟨z', hz'⟩ : ∃ zz, (zl ++ [(x.user, x.yes)])[j]? = some zz := ⟨_, List.getElem?_eq_getElem (by rw [HM2.out]; exact HJM.out)⟩
                        obtain ⟨g8, g9, e8, e9, _, _, d8, d9⟩ := HJ.out.2.1.at hz'
                        cases e8
                        cases e9
                        have HZJ : Hid ((zl ++ [(x.user, x.yes)])[j]? = some z') := hz'
                        clear hj hz'
                        cases hzb : z'.2
                        · rw [hzb] at d9
                          have HW := with_is z'.1 _ u17 wr HJ.out.2.2.2 (HZN.out _ _)
                          have HZB : Hid (z'.2 = false) := hzb
                          clear hzb
                          go_wp2_with fail
                          refine HW.mono ?_
                          rintro e W2 ⟨v', rfl, hts, hb2⟩
                          have HWV : Hid _ := HJ.out.2.1.below hb2
                          have HW2 : Hid (TS W2 u16 (foldW (side ((zl ++ [(x.user, x.yes)]).take (j + 1)) true)) ∧ TS W2 v' (foldW (side ((zl ++ [(x.user, x.yes)]).take (j + 1)) false))) := ⟨(HJ.out.2.2.1.below hb2).other HZJ.out (by rw [HZB.out]; decide), hts.mine HZJ.out HZB.out⟩
                          clear HW hts hb2 d8 d9
                          go_wp2
                          go_roundw
                          case rel => exact ⟨j + 1, by simp, HJM.out, HWV.out, HW2.out⟩
                          case measure =>
                            have := HJM.out
                            simp only [intOf]
                            omega
                        · rw [hzb] at d9
                          have HW := with_is z'.1 _ u16 wr HJ.out.2.2.1 (HZN.out _ _)
                          have HZB : Hid (z'.2 = true) := hzb
                          clear hzb
                          go_wp2_with fail
                          refine HW.mono ?_
                          rintro e W2 ⟨v', rfl, hts, hb2⟩
                          have HWV : Hid _ := HJ.out.2.1.below hb2
                          have HW2 : Hid (TS W2 v' (foldW (side ((zl ++ [(x.user, x.yes)]).take (j + 1)) true)) ∧ TS W2 u17 (foldW (side ((zl ++ [(x.user, x.yes)]).take (j + 1)) false))) := ⟨hts.mine HZJ.out HZB.out, (HJ.out.2.2.2.below hb2).other HZJ.out (by rw [HZB.out]; decide)⟩
                          clear HW hts hb2 d8 d9
                          go_wp2
                          go_roundw
                          case rel => exact ⟨j + 1, by simp, HJM.out, HWV.out, HW2.out⟩
                          case measure =>
                            have := HJM.out
                            simp only [intOf]
                            omega
                · by_cases k2 : x.kind = 2
                  · have kk1 : (x.kind == 1) = false := by simpa using k1
                    have kk2 : (x.kind == 2) = true := by simp [k2]
                    have HCALL := unvote_is HV4.out.1.brd HI9.out 1 x.user HOK.out.2.2.1
                    obtain ⟨M', e1, hOM'⟩ := HI.out.2.1.unvote x.user
                    rw [e1, (HI.out.2.2.none HNOT.out).2] at HCALL
                    have HRV : Hid (OM M' au (turnV vs (bk x.user) 0) ∧ Rv au (turnV vs (bk x.user) 0) zl) := ⟨hOM', (HI.out.2.2.none HNOT.out).1⟩
                    clear e1 hOM'
                    go_wp2_with fail
                    refine HCALL.mono ?_
                    rintro e V5 ⟨rfl, hB5, hA5⟩
                    have HO : Hid (VI w V5 b M' (i + 1 + 1) zl (.slice a8 m k8) (.slice a9 m k9) ∧ OM M' au (turnV vs (bk x.user) 0) ∧ Rv au (turnV vs (bk x.user) 0) zl) := ⟨HV4.out.1.call hB5 hA5, HRV.out⟩
                    have HM2 : Hid (zl.length = m) := HM.out.1
                    clear HCALL hB5 hA5 c0 c2 c36
                    have HT0 : Hid (TS V5 (.slice none 0 0) (foldW (side ((zl).take 0) true)) ∧ TS V5 (.slice none 0 0) (foldW (side ((zl).take 0) false))) := ⟨.inl ⟨rfl, rfl⟩, .inl ⟨rfl, rfl⟩⟩
                    have qm2 : (m : Int) ≤ 1000 := by have h1 := HM2.out; have h2 := HO.out.1.nz; have h3 := HI9.out; omega
                    have HZN : Hid (∀ so j, (foldW (side ((zl).take j) so)).length ≤ 1000) := fun so j => (fold_small HO.out.1.nz HI9.out so j).1
                    go_wp2
                    go_loopw [141, 16, 17] (fun u v16 v17 W => ∃ j : Nat, u = iv j ∧ Hid (j ≤ m ∧ VI w W b M' (i + 1 + 1) (zl) (.slice a8 m k8) (.slice a9 m k9) ∧ TS W v16 (foldW (side ((zl).take j) true)) ∧ TS W v17 (foldW (side ((zl).take j) false)))) (fun u _ _ _ => m - (intOf u).toNat)
                    case atStart => exact ⟨0, rfl, Nat.zero_le _, HO.out.1, HT0.out⟩
                    case round =>
                      obtain ⟨j, rfl, HJ⟩ := hrel
                      by_cases hj : j = m
                      · have q5 : (m : Int) ≤ (j : Int) := by omega
                        have HTT : Hid (TS wr u16 (foldW (side (zl) true)) ∧ TS wr u17 (foldW (side (zl) false))) := ⟨HJ.out.2.2.1.all hj HM2.out, HJ.out.2.2.2.all hj HM2.out⟩
                        have HLN : Hid ((foldW (side (zl) true)).length ≤ 1000 ∧ (foldW (side (zl) false)).length ≤ 1000) := ⟨(fold_small HO.out.1.nz HI9.out true 0).2, (fold_small HO.out.1.nz HI9.out false 0).2⟩
                        have HPR := proposal_is HJ.out.2.1.brd 1
                        clear hj
                        go_wp2_with fail
                        refine HPR.mono ?_
                        rintro e V2 ⟨pp, is, rfl, htold, hb2⟩
                        obtain ⟨p, hat, _, _, hvs⟩ := HO.out.2.1.at
                        unfold ToldB at htold
                        rw [hat] at htold
                        obtain ⟨rfl, y, nn, t, hpp, hpl, hy, hno, _⟩ := htold
                        have HNM : Hid (Strs V2 y.a y.n (foldW (side (zl) true)) ∧ Strs V2 nn.a nn.n (foldW (side (zl) false))) := HO.out.2.2.names hvs hy hno
                        obtain ⟨cpp, hcpp⟩ : ∃ c, pp.cells = c := ⟨_, rfl⟩
                        have HP : Hid (cpp.length = 39 ∧ (∀ v ∈ cpp, v.oneCell' = true) ∧ cpp[36]? = some (.slice y.a y.n y.c) ∧ cpp[37]? = some (.slice nn.a nn.n nn.c)) := by
                          rw [← hcpp, hpp]; exact ⟨Pp.length hpl, Pp.one _, Pp.tail hpl 1, Pp.tail hpl 2⟩
                        rw [hcpp]
                        clear HPR hpp hcpp hy hno hat hvs hpl
                        go_wp2_with (with_reducible change wpList _ _ _ ({ dst := none, op := Op.store _ _ _, type := _, pos := _, after := _, guard := _ } :: _) _ _; refine Hid.out ?_)
                        show wpList _ _ _ _ _ _
                        refine wpList_store_blk rfl 43 (.tmp 19) (.tmp 164) rfl V2.heap.size 0 43 Z43 cpp rfl rfl (by simpa using Blk.new V2 Z43.toArray 43) (by rw [HZ43.out, HP.out.1]; omega) (by rw [HP.out.1]; exact size43) HP.out.2.1 ?_
                        intro V3 hb5 hg5
                        have hV3 : Below V2.heap.size V2 V3 := (below_al V2 _).grown hg5.out (below_al V2 _).size (fun j hj => by cases hj; exact Nat.le_refl _)
                        obtain ⟨g19, hg⟩ : ∃ g, V2.heap.size = g := ⟨_, rfl⟩
                        rw [hg] at hb5 ⊢
                        have hbk : Blk V3 g19 43 cpp := by
                          have := hb5.out
                          rw [List.take_zero, List.nil_append, List.drop_of_length_le (by rw [HZ43.out, HP.out.1]; omega), List.append_nil] at this
                          exact this
                        have h23 := below_tr hb2 hV3
                        have HV3 : Hid (VI w V3 b M' (i + 1 + 1) (zl) (.slice a8 m k8) (.slice a9 m k9) ∧ Blk V3 g19 43 cpp) := ⟨HJ.out.2.1.below h23, hbk⟩
                        obtain ⟨s16, hs16, hst16, hx16⟩ := (HTT.out.1.below h23).sl
                        obtain ⟨s17, hs17, hst17, hx17⟩ := (HTT.out.2.below h23).sl
                        subst hs16
                        subst hs17
                        have HST : Hid (Strs V3 s17.a s17.n (foldW (side (zl) false)) ∧ Strs V3 nn.a nn.n (foldW (side (zl) false))) := ⟨hst17, HNM.out.2.below hV3⟩
                        have HTX := texts_same _ y s16 V3 (HNM.out.1.below hV3) hst16 (by have := HLN.out.1; omega)
                        have e36 : V3.cell? ⟨g19, 36, none⟩ = some (.slice y.a y.n y.c) := hbk.cell HP.out.2.2.1
                        clear hb2 hb5 hg5 hV3 hg hbk h23 hst16 hst17 hx16 hx17
                        go_wp2_with fail
                        refine HTX.mono ?_
                        rintro e V4 ⟨rfl, hb4⟩
                        have HV4' : Hid (VI w V4 b M' (i + 1 + 1) (zl) (.slice a8 m k8) (.slice a9 m k9)) := HV3.out.1.below hb4
                        have HTX2 := texts_same _ nn s17 V4 (HST.out.2.below hb4) (HST.out.1.below hb4) (by have := HLN.out.2; omega)
                        have e37 : V4.cell? ⟨g19, 37, none⟩ = some (.slice nn.a nn.n nn.c) := (HV3.out.2.below hb4 HV3.out.2.lt).cell HP.out.2.2.2
                        clear HTX hb4 e36
                        go_wp2_with fail
                        refine HTX2.mono ?_
                        rintro e V5' ⟨rfl, hb5⟩
                        have HX5 : Hid (VI w V5' b M' (i + 1 + 1) (zl) (.slice a8 m k8) (.slice a9 m k9) ∧ OM M' au (turnV vs (bk x.user) 0) ∧ Rv au (turnV vs (bk x.user) 0) (zl)) := ⟨HV4'.out.below hb5, HO.out.2⟩
                        clear HTX2 hb5 e37
                        go_wp2
                        go_roundw
                        case rel => exact ⟨i + 1, M', zl, (turnV vs (bk x.user) 0), by simp, HQ.out, HX5.out⟩
                        case measure =>
                          have := HQ.out
                          simp only [intOf]
                          omega
                      · have HJM : Hid (j < m) := by have := HJ.out.1; show _ < _; omega
                        have q5 : (j : Int) < (m : Int) := by have := HJM.out; omega
                        obtain ⟨z', hz'⟩ : ∃ zz, (zl)[j]? = some zz := ⟨_, List.getElem?_eq_getElem (by rw [HM2.out]; exact HJM.out)⟩
                        obtain ⟨g8, g9, e8, e9, _, _, d8, d9⟩ := HJ.out.2.1.at hz'
                        cases e8
                        cases e9
                        have HZJ : Hid ((zl)[j]? = some z') := hz'
                        clear hj hz'
                        cases hzb : z'.2
                        · rw [hzb] at d9
                          have HW := with_is z'.1 _ u17 wr HJ.out.2.2.2 (HZN.out _ _)
                          have HZB : Hid (z'.2 = false) := hzb
                          clear hzb
                          go_wp2_with fail
                          refine HW.mono ?_
                          rintro e W2 ⟨v', rfl, hts, hb2⟩
                          have HWV : Hid _ := HJ.out.2.1.below hb2
                          have HW2 : Hid (TS W2 u16 (foldW (side ((zl).take (j + 1)) true)) ∧ TS W2 v' (foldW (side ((zl).take (j + 1)) false))) := ⟨(HJ.out.2.2.1.below hb2).other HZJ.out (by rw [HZB.out]; decide), hts.mine HZJ.out HZB.out⟩
                          clear HW hts hb2 d8 d9
                          go_wp2
                          go_roundw
                          case rel => exact ⟨j + 1, by simp, HJM.out, HWV.out, HW2.out⟩
                          case measure =>
                            have := HJM.out
                            simp only [intOf]
                            omega
                        · rw [hzb] at d9
                          have HW := with_is z'.1 _ u16 wr HJ.out.2.2.1 (HZN.out _ _)
                          have HZB : Hid (z'.2 = true) := hzb
                          clear hzb
                          go_wp2_with fail
                          refine HW.mono ?_
                          rintro e W2 ⟨v', rfl, hts, hb2⟩
                          have HWV : Hid _ := HJ.out.2.1.below hb2
                          have HW2 : Hid (TS W2 v' (foldW (side ((zl).take (j + 1)) true)) ∧ TS W2 u17 (foldW (side ((zl).take (j + 1)) false))) := ⟨hts.mine HZJ.out HZB.out, (HJ.out.2.2.2.below hb2).other HZJ.out (by rw [HZB.out]; decide)⟩
                          clear HW hts hb2 d8 d9
                          go_wp2
                          go_roundw
                          case rel => exact ⟨j + 1, by simp, HJM.out, HWV.out, HW2.out⟩
                          case measure =>
                            have := HJM.out
                            simp only [intOf]
                            omega
                  · have kk1 : (x.kind == 1) = false := by simpa using k1
                    have kk2 : (x.kind == 2) = false := by simpa using k2
                    have HO : Hid (VI w wr b M (i + 1 + 1) zl (.slice a8 m k8) (.slice a9 m k9) ∧ OM M au vs ∧ Rv au vs zl) := ⟨HV4.out.1.more HI9.out, HI.out.2⟩
                    have HM2 : Hid (zl.length = m) := HM.out.1
                    clear c2 c36
                    have HT0 : Hid (TS wr (.slice none 0 0) (foldW (side ((zl).take 0) true)) ∧ TS wr (.slice none 0 0) (foldW (side ((zl).take 0) false))) := ⟨.inl ⟨rfl, rfl⟩, .inl ⟨rfl, rfl⟩⟩
                    have qm2 : (m : Int) ≤ 1000 := by have h1 := HM2.out; have h2 := HO.out.1.nz; have h3 := HI9.out; omega
                    have HZN : Hid (∀ so j, (foldW (side ((zl).take j) so)).length ≤ 1000) := fun so j => (fold_small HO.out.1.nz HI9.out so j).1
                    go_wp2
                    have hd53 : decide (j < m) = false := decide_eq_false (by omega)
                    simp only [hd53]
                    clear hd53
                    go_loopw [141, 16, 17] (fun u v16 v17 W => ∃ j : Nat, u = iv j ∧ Hid (j ≤ m ∧ VI w W b M (i + 1 + 1) (zl) (.slice a8 m k8) (.slice a9 m k9) ∧ TS W v16 (foldW (side ((zl).take j) true)) ∧ TS W v17 (foldW (side ((zl).take j) false)))) (fun u _ _ _ => m - (intOf u).toNat)
                    case atStart => exact ⟨0, rfl, Nat.zero_le _, HO.out.1, HT0.out⟩
                    case round =>
                      obtain ⟨j, rfl, HJ⟩ := hrel
                      by_cases hj : j = m
                      · have q5 : (m : Int) ≤ (j : Int) := by omega
                        have HTT : Hid (TS wr u16 (foldW (side (zl) true)) ∧ TS wr u17 (foldW (side (zl) false))) := ⟨HJ.out.2.2.1.all hj HM2.out, HJ.out.2.2.2.all hj HM2.out⟩
                        have HLN : Hid ((foldW (side (zl) true)).length ≤ 1000 ∧ (foldW (side (zl) false)).length ≤ 1000) := ⟨(fold_small HO.out.1.nz HI9.out true 0).2, (fold_small HO.out.1.nz HI9.out false 0).2⟩
                        have HPR := proposal_is HJ.out.2.1.brd 1
                        clear hj
                        go_wp2_with fail
                        refine HPR.mono ?_
                        rintro e V2 ⟨pp, is, rfl, htold, hb2⟩
                        obtain ⟨p, hat, _, _, hvs⟩ := HO.out.2.1.at
                        unfold ToldB at htold
                        rw [hat] at htold
                        obtain ⟨rfl, y, nn, t, hpp, hpl, hy, hno, _⟩ := htold
                        have HNM : Hid (Strs V2 y.a y.n (foldW (side (zl) true)) ∧ Strs V2 nn.a nn.n (foldW (side (zl) false))) := HO.out.2.2.names hvs hy hno
                        obtain ⟨cpp, hcpp⟩ : ∃ c, pp.cells = c := ⟨_, rfl⟩
                        have HP : Hid (cpp.length = 39 ∧ (∀ v ∈ cpp, v.oneCell' = true) ∧ cpp[36]? = some (.slice y.a y.n y.c) ∧ cpp[37]? = some (.slice nn.a nn.n nn.c)) := by
                          rw [← hcpp, hpp]; exact ⟨Pp.length hpl, Pp.one _, Pp.tail hpl 1, Pp.tail hpl 2⟩
                        rw [hcpp]
                        clear HPR hpp hcpp hy hno hat hvs hpl
                        go_wp2_with (with_reducible change wpList _ _ _ ({ dst := none, op := Op.store _ _ _, type := _, pos := _, after := _, guard := _ } :: _) _ _; refine Hid.out ?_)
                        show wpList _ _ _ _ _ _
                        refine wpList_store_blk rfl 43 (.tmp 19) (.tmp 164) rfl V2.heap.size 0 43 Z43 cpp rfl rfl (by simpa using Blk.new V2 Z43.toArray 43) (by rw [HZ43.out, HP.out.1]; omega) (by rw [HP.out.1]; exact size43) HP.out.2.1 ?_
                        intro V3 hb5 hg5
                        have hV3 : Below V2.heap.size V2 V3 := (below_al V2 _).grown hg5.out (below_al V2 _).size (fun j hj => by cases hj; exact Nat.le_refl _)
                        obtain ⟨g19, hg⟩ : ∃ g, V2.heap.size = g := ⟨_, rfl⟩
                        rw [hg] at hb5 ⊢
                        have hbk : Blk V3 g19 43 cpp := by
                          have := hb5.out
                          rw [List.take_zero, List.nil_append, List.drop_of_length_le (by rw [HZ43.out, HP.out.1]; omega), List.append_nil] at this
                          exact this
                        have h23 := below_tr hb2 hV3
                        have HV3 : Hid (VI w V3 b M (i + 1 + 1) (zl) (.slice a8 m k8) (.slice a9 m k9) ∧ Blk V3 g19 43 cpp) := ⟨HJ.out.2.1.below h23, hbk⟩
                        obtain ⟨s16, hs16, hst16, hx16⟩ := (HTT.out.1.below h23).sl
                        obtain ⟨s17, hs17, hst17, hx17⟩ := (HTT.out.2.below h23).sl
                        subst hs16
                        subst hs17
                        have HST : Hid (Strs V3 s17.a s17.n (foldW (side (zl) false)) ∧ Strs V3 nn.a nn.n (foldW (side (zl) false))) := ⟨hst17, HNM.out.2.below hV3⟩
                        have HTX := texts_same _ y s16 V3 (HNM.out.1.below hV3) hst16 (by have := HLN.out.1; omega)
                        have e36 : V3.cell? ⟨g19, 36, none⟩ = some (.slice y.a y.n y.c) := hbk.cell HP.out.2.2.1
                        clear hb2 hb5 hg5 hV3 hg hbk h23 hst16 hst17 hx16 hx17
                        go_wp2_with fail
                        refine HTX.mono ?_
                        rintro e V4 ⟨rfl, hb4⟩
                        have HV4' : Hid (VI w V4 b M (i + 1 + 1) (zl) (.slice a8 m k8) (.slice a9 m k9)) := HV3.out.1.below hb4
                        have HTX2 := texts_same _ nn s17 V4 (HST.out.2.below hb4) (HST.out.1.below hb4) (by have := HLN.out.2; omega)
                        have e37 : V4.cell? ⟨g19, 37, none⟩ = some (.slice nn.a nn.n nn.c) := (HV3.out.2.below hb4 HV3.out.2.lt).cell HP.out.2.2.2
                        clear HTX hb4 e36
                        go_wp2_with fail
                        refine HTX2.mono ?_
                        rintro e V5' ⟨rfl, hb5⟩
                        have HX5 : Hid (VI w V5' b M (i + 1 + 1) (zl) (.slice a8 m k8) (.slice a9 m k9) ∧ OM M au vs ∧ Rv au vs (zl)) := ⟨HV4'.out.below hb5, HO.out.2⟩
                        clear HTX2 hb5 e37
                        go_wp2
                        go_roundw
                        case rel => exact ⟨i + 1, M, zl, vs, by simp, HQ.out, HX5.out⟩
                        case measure =>
                          have := HQ.out
                          simp only [intOf]
                          omega
                      · have HJM : Hid (j < m) := by have := HJ.out.1; show _ < _; omega
                        have q5 : (j : Int) < (m : Int) := by have := HJM.out; omega
                        obtain ⟨z', hz'⟩ : ∃ zz, (zl)[j]? = some zz := ⟨_, List.getElem?_eq_getElem (by rw [HM2.out]; exact HJM.out)⟩
                        obtain ⟨g8, g9, e8, e9, _, _, d8, d9⟩ := HJ.out.2.1.at hz'
                        cases e8
                        cases e9
                        have HZJ : Hid ((zl)[j]? = some z') := hz'
                        clear hj hz'
                        cases hzb : z'.2
                        · rw [hzb] at d9
                          have HW := with_is z'.1 _ u17 wr HJ.out.2.2.2 (HZN.out _ _)
                          have HZB : Hid (z'.2 = false) := hzb
                          clear hzb
                          go_wp2_with fail
                          refine HW.mono ?_
                          rintro e W2 ⟨v', rfl, hts, hb2⟩
                          have HWV : Hid _ := HJ.out.2.1.below hb2
                          have HW2 : Hid (TS W2 u16 (foldW (side ((zl).take (j + 1)) true)) ∧ TS W2 v' (foldW (side ((zl).take (j + 1)) false))) := ⟨(HJ.out.2.2.1.below hb2).other HZJ.out (by rw [HZB.out]; decide), hts.mine HZJ.out HZB.out⟩
                          clear HW hts hb2 d8 d9
                          go_wp2
                          go_roundw
                          case rel => exact ⟨j + 1, by simp, HJM.out, HWV.out, HW2.out⟩
                          case measure =>
                            have := HJM.out
                            simp only [intOf]
                            omega
                        · rw [hzb] at d9
                          have HW := with_is z'.1 _ u16 wr HJ.out.2.2.1 (HZN.out _ _)
                          have HZB : Hid (z'.2 = true) := hzb
                          clear hzb
                          go_wp2_with fail
                          refine HW.mono ?_
                          rintro e W2 ⟨v', rfl, hts, hb2⟩
                          have HWV : Hid _ := HJ.out.2.1.below hb2
                          have HW2 : Hid (TS W2 v' (foldW (side ((zl).take (j + 1)) true)) ∧ TS W2 u17 (foldW (side ((zl).take (j + 1)) false))) := ⟨hts.mine HZJ.out HZB.out, (HJ.out.2.2.2.below hb2).other HZJ.out (by rw [HZB.out]; decide)⟩
                          clear HW hts hb2 d8 d9
                          go_wp2
                          go_roundw
                          case rel => exact ⟨j + 1, by simp, HJM.out, HWV.out, HW2.out⟩
                          case measure =>
                            have := HJM.out
                            simp only [intOf]
                            omega
              · have HZK : Hid (zl[k]? = some z ∧ z.1 = x.user ∧ k < m) := ⟨hz, hzu, hkm⟩
                have q6 : (k : Int) < (m : Int) := by omega
                have q7 : k < m := hkm
                have q8 : (0 : Int) ≤ (k : Int) := by omega
                have hu : x.user ≠ au := fun e => HI.out.2.2.au (by rw [← e, ← hzu]; exact List.mem_map.2 ⟨z, List.mem_of_getElem? hz, rfl⟩)
                obtain ⟨g8, g9, e8, e9, _, _, _, _⟩ := HV4.out.1.at hz
                cases e8
                cases e9
                clear hF hz hzu hkm
                by_cases k1 : x.kind = 1
                · have kk1 : (x.kind == 1) = true := by simp [k1]
                  have hbq : (x.user.toList == au.toList) = false := by rw [eq_iff]; simp [hu]
                  have hbn : (x.user.toList != au.toList) = true := by simp [bne, hbq]
                  have HCALL := vote_is HV4.out.1.brd HI9.out 1 x.user HOK.out.2.2.1 x.yes
                  obtain ⟨M', e1, hOM'⟩ := HI.out.2.1.vote hu x.yes
                  rw [e1] at HCALL
                  have HRV : Hid (OM M' au (turnV vs (bk x.user) (kOf x.yes)) ∧ Rv au (turnV vs (bk x.user) (kOf x.yes)) (zl.set k (z.1, x.yes))) := ⟨hOM', by rw [← HZK.out.2.1]; exact HI.out.2.2.set HZK.out.1 x.yes⟩
                  clear e1 hu hOM'
                  go_wp2_with fail
                  refine HCALL.mono ?_
                  rintro e V5 ⟨rfl, hB5, hA5⟩
                  have hbk5 : Blk V5 g 34 x.cells := (hA5.other HV4.out.2.lt HGV.out.2).1.trans HV4.out.2
                  obtain ⟨_, _, d2, _, _, d36⟩ := ActV.cell (o := 0) HOK.out.2.2.2.2 hbk5.range0
                  rw [Nat.zero_add] at d2 d36
                  have HV5 : Hid (VI w V5 b M' (i + 1 + 1) zl (.slice (some ⟨g8, 0, none⟩) m k8) (.slice (some ⟨g9, 0, none⟩) m k9)) := HV4.out.1.call hB5 hA5
                  obtain ⟨g8', g9', e8, e9, _, _, _, f9⟩ := HV5.out.at HZK.out.1
                  cases e8
                  cases e9
                  have ff9 : V5.frozen? ⟨g9, k, none⟩ = false := by
                    obtain ⟨a', c', e', _, _, h'⟩ := HV5.out.r9.read
                    cases e'
                    obtain ⟨g', L, e', hb', _⟩ := h' (by have := HZK.out.2.2; rw [z9_len, HM.out.1]; omega)
                    cases e'
                    exact hb'.free k
                  have HO : Hid (VI w (V5.setCell ⟨g9, k, none⟩ (.bool x.yes)) b M' (i + 1 + 1) (zl.set k (z.1, x.yes)) (.slice (some ⟨g8, 0, none⟩) m k8) (.slice (some ⟨g9, 0, none⟩) m k9) ∧ OM M' au (turnV vs (bk x.user) (kOf x.yes)) ∧ Rv au (turnV vs (bk x.user) (kOf x.yes)) (zl.set k (z.1, x.yes))) := ⟨HV5.out.put HZK.out.1 x.yes, HRV.out⟩
                  have HM2 : Hid ((zl.set k (z.1, x.yes)).length = m) := by show _ = _; rw [List.length_set]; exact HM.out.1
                  clear HCALL hB5 hA5 hbk5 c0 c2 c36
                  have HT0 : Hid (TS (V5.setCell ⟨g9, k, none⟩ (.bool x.yes)) (.slice none 0 0) (foldW (side ((zl.set k (z.1, x.yes)).take 0) true)) ∧ TS (V5.setCell ⟨g9, k, none⟩ (.bool x.yes)) (.slice none 0 0) (foldW (side ((zl.set k (z.1, x.yes)).take 0) false))) := ⟨.inl ⟨rfl, rfl⟩, .inl ⟨rfl, rfl⟩⟩
                  have qm2 : (m : Int) ≤ 1000 := by have h1 := HM2.out; have h2 := HO.out.1.nz; have h3 := HI9.out; omega
                  have HZN : Hid (∀ so j, (foldW (side ((zl.set k (z.1, x.yes)).take j) so)).length ≤ 1000) := fun so j => (fold_small HO.out.1.nz HI9.out so j).1
                  go_wp2
                  go_loopw [141, 16, 17] (fun u v16 v17 W => ∃ j : Nat, u = iv j ∧ Hid (j ≤ m ∧ VI w W b M' (i + 1 + 1) (zl.set k (z.1, x.yes)) (.slice (some ⟨g8, 0, none⟩) m k8) (.slice (some ⟨g9, 0, none⟩) m k9) ∧ TS W v16 (foldW (side ((zl.set k (z.1, x.yes)).take j) true)) ∧ TS W v17 (foldW (side ((zl.set k (z.1, x.yes)).take j) false)))) (fun u _ _ _ => m - (intOf u).toNat)
                  case atStart => exact ⟨0, rfl, Nat.zero_le _, HO.out.1, HT0.out⟩
                  case round =>
                    obtain ⟨j, rfl, HJ⟩ := hrel
                    by_cases hj : j = m
                    · have q5 : (m : Int) ≤ (j : Int) := by omega
                      have HTT : Hid (TS wr u16 (foldW (side (zl.set k (z.1, x.yes)) true)) ∧ TS wr u17 (foldW (side (zl.set k (z.1, x.yes)) false))) := ⟨HJ.out.2.2.1.all hj HM2.out, HJ.out.2.2.2.all hj HM2.out⟩
                      have HLN : Hid ((foldW (side (zl.set k (z.1, x.yes)) true)).length ≤ 1000 ∧ (foldW (side (zl.set k (z.1, x.yes)) false)).length ≤ 1000) := ⟨(fold_small HO.out.1.nz HI9.out true 0).2, (fold_small HO.out.1.nz HI9.out false 0).2⟩
                      have HPR := proposal_is HJ.out.2.1.brd 1
                      clear hj
                      go_wp2_with fail
                      refine HPR.mono ?_
                      rintro e V2 ⟨pp, is, rfl, htold, hb2⟩
                      obtain ⟨p, hat, _, _, hvs⟩ := HO.out.2.1.at
                      unfold ToldB at htold
                      rw [hat] at htold
                      obtain ⟨rfl, y, nn, t, hpp, hpl, hy, hno, _⟩ := htold
                      have HNM : Hid (Strs V2 y.a y.n (foldW (side (zl.set k (z.1, x.yes)) true)) ∧ Strs V2 nn.a nn.n (foldW (side (zl.set k (z.1, x.yes)) false))) := HO.out.2.2.names hvs hy hno
                      obtain ⟨cpp, hcpp⟩ : ∃ c, pp.cells = c := ⟨_, rfl⟩
                      have HP : Hid (cpp.length = 39 ∧ (∀ v ∈ cpp, v.oneCell' = true) ∧ cpp[36]? = some (.slice y.a y.n y.c) ∧ cpp[37]? = some (.slice nn.a nn.n nn.c)) := by
                        rw [← hcpp, hpp]; exact ⟨Pp.length hpl, Pp.one _, Pp.tail hpl 1, Pp.tail hpl 2⟩
                      rw [hcpp]
                      clear HPR hpp hcpp hy hno hat hvs hpl
                      go_wp2_with (with_reducible change wpList _ _ _ ({ dst := none, op := Op.store _ _ _, type := _, pos := _, after := _, guard := _ } :: _) _ _; refine Hid.out ?_)
                      show wpList _ _ _ _ _ _
                      refine wpList_store_blk rfl 43 (.tmp 19) (.tmp 164) rfl V2.heap.size 0 43 Z43 cpp rfl rfl (by simpa using Blk.new V2 Z43.toArray 43) (by rw [HZ43.out, HP.out.1]; omega) (by rw [HP.out.1]; exact size43) HP.out.2.1 ?_
                      intro V3 hb5 hg5
                      have hV3 : Below V2.heap.size V2 V3 := (below_al V2 _).grown hg5.out (below_al V2 _).size (fun j hj => by cases hj; exact Nat.le_refl _)
                      obtain ⟨g19, hg⟩ : ∃ g, V2.heap.size = g := ⟨_, rfl⟩
                      rw [hg] at hb5 ⊢
                      have hbk : Blk V3 g19 43 cpp := by
                        have := hb5.out
                        rw [List.take_zero, List.nil_append, List.drop_of_length_le (by rw [HZ43.out, HP.out.1]; omega), List.append_nil] at this
                        exact this
                      have h23 := below_tr hb2 hV3
                      have HV3 : Hid (VI w V3 b M' (i + 1 + 1) (zl.set k (z.1, x.yes)) (.slice (some ⟨g8, 0, none⟩) m k8) (.slice (some ⟨g9, 0, none⟩) m k9) ∧ Blk V3 g19 43 cpp) := ⟨HJ.out.2.1.below h23, hbk⟩
                      obtain ⟨s16, hs16, hst16, hx16⟩ := (HTT.out.1.below h23).sl
                      obtain ⟨s17, hs17, hst17, hx17⟩ := (HTT.out.2.below h23).sl
                      subst hs16
                      subst hs17
                      have HST : Hid (Strs V3 s17.a s17.n (foldW (side (zl.set k (z.1, x.yes)) false)) ∧ Strs V3 nn.a nn.n (foldW (side (zl.set k (z.1, x.yes)) false))) := ⟨hst17, HNM.out.2.below hV3⟩
                      have HTX := texts_same _ y s16 V3 (HNM.out.1.below hV3) hst16 (by have := HLN.out.1; omega)
                      have e36 : V3.cell? ⟨g19, 36, none⟩ = some (.slice y.a y.n y.c) := hbk.cell HP.out.2.2.1
                      clear hb2 hb5 hg5 hV3 hg hbk h23 hst16 hst17 hx16 hx17
                      go_wp2_with fail
                      refine HTX.mono ?_
                      rintro e V4 ⟨rfl, hb4⟩
                      have HV4' : Hid (VI w V4 b M' (i + 1 + 1) (zl.set k (z.1, x.yes)) (.slice (some ⟨g8, 0, none⟩) m k8) (.slice (some ⟨g9, 0, none⟩) m k9)) := HV3.out.1.below hb4
                      have HTX2 := texts_same _ nn s17 V4 (HST.out.2.below hb4) (HST.out.1.below hb4) (by have := HLN.out.2; omega)
                      have e37 : V4.cell? ⟨g19, 37, none⟩ = some (.slice nn.a nn.n nn.c) := (HV3.out.2.below hb4 HV3.out.2.lt).cell HP.out.2.2.2
                      clear HTX hb4 e36
                      go_wp2_with fail
                      refine HTX2.mono ?_
                      rintro e V5' ⟨rfl, hb5⟩
                      have HX5 : Hid (VI w V5' b M' (i + 1 + 1) (zl.set k (z.1, x.yes)) (.slice (some ⟨g8, 0, none⟩) m k8) (.slice (some ⟨g9, 0, none⟩) m k9) ∧ OM M' au (turnV vs (bk x.user) (kOf x.yes)) ∧ Rv au (turnV vs (bk x.user) (kOf x.yes)) (zl.set k (z.1, x.yes))) := ⟨HV4'.out.below hb5, HO.out.2⟩
                      clear HTX2 hb5 e37
                      go_wp2
                      go_roundw
                      case rel => exact ⟨i + 1, M', zl.set k (z.1, x.yes), (turnV vs (bk x.user) (kOf x.yes)), by simp, HQ.out, HX5.out⟩
                      case measure =>
                        have := HQ.out
                        simp only [intOf]
                        omega
                    · have HJM : Hid (j < m) := by have := HJ.out.1; show _ < _; omega
                      have q5 : (j : Int) < (m : Int) := by have := HJM.out; omega
                      obtain ⟨z', hz'⟩ : ∃ zz, (zl.set k (z.1, x.yes))[j]? = some zz := ⟨_, List.getElem?_eq_getElem (by rw [HM2.out]; exact HJM.out)⟩
                      obtain ⟨g8, g9, e8, e9, _, _, d8, d9⟩ := HJ.out.2.1.at hz'
                      cases e8
                      cases e9
                      have HZJ : Hid ((zl.set k (z.1, x.yes))[j]? = some z') := hz'
                      clear hj hz'
                      cases hzb : z'.2
                      · rw [hzb] at d9
                        have HW := with_is z'.1 _ u17 wr HJ.out.2.2.2 (HZN.out _ _)
                        have HZB : Hid (z'.2 = false) := hzb
                        clear hzb
                        go_wp2_with fail
                        refine HW.mono ?_
                        rintro e W2 ⟨v', rfl, hts, hb2⟩
                        have HWV : Hid _ := HJ.out.2.1.below hb2
                        have HW2 : Hid (TS W2 u16 (foldW (side ((zl.set k (z.1, x.yes)).take (j + 1)) true)) ∧ TS W2 v' (foldW (side ((zl.set k (z.1, x.yes)).take (j + 1)) false))) := ⟨(HJ.out.2.2.1.below hb2).other HZJ.out (by rw [HZB.out]; decide), hts.mine HZJ.out HZB.out⟩
                        clear HW hts hb2 d8 d9
                        go_wp2
                        go_roundw
                        case rel => exact ⟨j + 1, by simp, HJM.out, HWV.out, HW2.out⟩
                        case measure =>
                          have := HJM.out
                          simp only [intOf]
                          omega
                      · rw [hzb] at d9
                        have HW := with_is z'.1 _ u16 wr HJ.out.2.2.1 (HZN.out _ _)
                        have HZB : Hid (z'.2 = true) := hzb
                        clear hzb
                        go_wp2_with fail
                        refine HW.mono ?_
                        rintro e W2 ⟨v', rfl, hts, hb2⟩
                        have HWV : Hid _ := HJ.out.2.1.below hb2
                        have HW2 : Hid (TS W2 v' (foldW (side ((zl.set k (z.1, x.yes)).take (j + 1)) true)) ∧ TS W2 u17 (foldW (side ((zl.set k (z.1, x.yes)).take (j + 1)) false))) := ⟨hts.mine HZJ.out HZB.out, (HJ.out.2.2.2.below hb2).other HZJ.out (by rw [HZB.out]; decide)⟩
                        clear HW hts hb2 d8 d9
                        go_wp2
                        go_roundw
                        case rel => exact ⟨j + 1, by simp, HJM.out, HWV.out, HW2.out⟩
                        case measure =>
                          have := HJM.out
                          simp only [intOf]
                          omega
                · by_cases k2 : x.kind = 2
                  · have kk1 : (x.kind == 1) = false := by simpa using k1
                    have kk2 : (x.kind == 2) = true := by simp [k2]
                    have HCALL := unvote_is HV4.out.1.brd HI9.out 1 x.user HOK.out.2.2.1
                    obtain ⟨M', e1, hOM'⟩ := HI.out.2.1.unvote x.user
                    have e2 : turnE vs (bk x.user) 0 = 0 := by rw [← HZK.out.2.1]; exact HI.out.2.2.some HZK.out.1
                    rw [e1, e2] at HCALL
                    have HRV : Hid (OM M' au (turnV vs (bk x.user) 0) ∧ Rv au (turnV vs (bk x.user) 0) (zl.eraseIdx k)) := ⟨hOM', by rw [← HZK.out.2.1]; exact HI.out.2.2.del HZK.out.1⟩
                    clear e1 e2 hOM' hu
                    go_wp2_with fail
                    refine HCALL.mono ?_
                    rintro e V5 ⟨rfl, hB5, hA5⟩
                    have HV5 : Hid (VI w V5 b M' (i + 1 + 1) zl (.slice (some ⟨g8, 0, none⟩) m k8) (.slice (some ⟨g9, 0, none⟩) m k9)) := HV4.out.1.call hB5 hA5
                    have HBB : Hid (w.heap.size ≤ V5.heap.size) := HV5.out.bel.size
                    have HII : Hid (k < m ∧ m ≤ 1000000 ∧ k ≤ k8 ∧ k ≤ k9) := ⟨q7, by omega, by have := HM.out.2.1; omega, by have := HM.out.2.2; omega⟩
                    have HKK : Hid (m ≤ k8 ∧ m ≤ k9) := HM.out.2
                    have HXX : Hid (OT w.heap.size V5 9 (.slice (some ⟨g8, 0, none⟩) m k8) (z8 zl) ∧ OT w.heap.size V5 4 (.slice (some ⟨g9, 0, none⟩) m k9) (z9 zl)) := ⟨HV5.out.r8, HV5.out.r9⟩
                    have HGG : Hid (g8 < V5.heap.size ∧ g9 < V5.heap.size ∧ g8 ≠ g9) := ⟨(HV5.out.r8.lt rfl).2, (HV5.out.r9.lt rfl).2, fun e => HV5.out.apart g8 rfl (by rw [e]; rfl)⟩
                    obtain ⟨o8, ho8⟩ : ∃ o, o = if k8 = k + 1 then 0 else k + 1 := ⟨_, rfl⟩
                    obtain ⟨o9, ho9⟩ : ∃ o, o = if k9 = k + 1 then 0 else k + 1 := ⟨_, rfl⟩
                    have HOF : Hid ((o8 = if k8 = k + 1 then 0 else k + 1) ∧ (o9 = if k9 = k + 1 then 0 else k + 1)) := ⟨ho8, ho9⟩
                    clear HCALL hB5 hA5 c0 c2 c36 ho8 ho9
                    go_wp2_with fail
                    refine vot32 HBB HII HKK HOF HXX HGG HU40 HU59 ?_
                    intro V6 w8 w9 hR6
                    have HX6 : Hid (VI w V6 b M' (i + 1 + 1) (zl.eraseIdx k) w8 w9) := HV5.out.cut hR6
                    obtain ⟨b8, l8, b9, l9, hv8, hv9, _, _⟩ := HX6.out.read
                    subst hv8
                    subst hv9
                    obtain ⟨m2, hm2⟩ : ∃ m, (zl.eraseIdx k).length = m := ⟨_, rfl⟩
                    rw [hm2] at HX6 ⊢
                    have HM2 : Hid ((zl.eraseIdx k).length = m2) := hm2
                    have HO : Hid (VI w V6 b M' (i + 1 + 1) (zl.eraseIdx k) (.slice b8 m2 l8) (.slice b9 m2 l9) ∧ OM M' au (turnV vs (bk x.user) 0) ∧ Rv au (turnV vs (bk x.user) 0) (zl.eraseIdx k)) := ⟨HX6.out, HRV.out⟩
                    clear hR6 HX6 hm2
                    have HT0 : Hid (TS V6 (.slice none 0 0) (foldW (side ((zl.eraseIdx k).take 0) true)) ∧ TS V6 (.slice none 0 0) (foldW (side ((zl.eraseIdx k).take 0) false))) := ⟨.inl ⟨rfl, rfl⟩, .inl ⟨rfl, rfl⟩⟩
                    have qm2 : (m2 : Int) ≤ 1000 := by have h1 := HM2.out; have h2 := HO.out.1.nz; have h3 := HI9.out; omega
                    have HZN : Hid (∀ so j, (foldW (side ((zl.eraseIdx k).take j) so)).length ≤ 1000) := fun so j => (fold_small HO.out.1.nz HI9.out so j).1
                    go_wp2
                    go_loopw [141, 16, 17] (fun u v16 v17 W => ∃ j : Nat, u = iv j ∧ Hid (j ≤ m2 ∧ VI w W b M' (i + 1 + 1) (zl.eraseIdx k) (.slice b8 m2 l8) (.slice b9 m2 l9) ∧ TS W v16 (foldW (side ((zl.eraseIdx k).take j) true)) ∧ TS W v17 (foldW (side ((zl.eraseIdx k).take j) false)))) (fun u _ _ _ => m2 - (intOf u).toNat)
                    case atStart => exact ⟨0, rfl, Nat.zero_le _, HO.out.1, HT0.out⟩
                    case round =>
                      obtain ⟨j, rfl, HJ⟩ := hrel
                      by_cases hj : j = m2
                      · have q5 : (m2 : Int) ≤ (j : Int) := by omega
                        have HTT : Hid (TS wr u16 (foldW (side (zl.eraseIdx k) true)) ∧ TS wr u17 (foldW (side (zl.eraseIdx k) false))) := ⟨HJ.out.2.2.1.all hj HM2.out, HJ.out.2.2.2.all hj HM2.out⟩
                        have HLN : Hid ((foldW (side (zl.eraseIdx k) true)).length ≤ 1000 ∧ (foldW (side (zl.eraseIdx k) false)).length ≤ 1000) := ⟨(fold_small HO.out.1.nz HI9.out true 0).2, (fold_small HO.out.1.nz HI9.out false 0).2⟩
                        have HPR := proposal_is HJ.out.2.1.brd 1
                        clear hj
                        go_wp2_with fail
                        refine HPR.mono ?_
                        rintro e V2 ⟨pp, is, rfl, htold, hb2⟩
                        obtain ⟨p, hat, _, _, hvs⟩ := HO.out.2.1.at
                        unfold ToldB at htold
                        rw [hat] at htold
                        obtain ⟨rfl, y, nn, t, hpp, hpl, hy, hno, _⟩ := htold
                        have HNM : Hid (Strs V2 y.a y.n (foldW (side (zl.eraseIdx k) true)) ∧ Strs V2 nn.a nn.n (foldW (side (zl.eraseIdx k) false))) := HO.out.2.2.names hvs hy hno
                        obtain ⟨cpp, hcpp⟩ : ∃ c, pp.cells = c := ⟨_, rfl⟩
                        have HP : Hid (cpp.length = 39 ∧ (∀ v ∈ cpp, v.oneCell' = true) ∧ cpp[36]? = some (.slice y.a y.n y.c) ∧ cpp[37]? = some (.slice nn.a nn.n nn.c)) := by
                          rw [← hcpp, hpp]; exact ⟨Pp.length hpl, Pp.one _, Pp.tail hpl 1, Pp.tail hpl 2⟩
                        rw [hcpp]
                        clear HPR hpp hcpp hy hno hat hvs hpl
                        go_wp2_with (with_reducible change wpList _ _ _ ({ dst := none, op := Op.store _ _ _, type := _, pos := _, after := _, guard := _ } :: _) _ _; refine Hid.out ?_)
                        show wpList _ _ _ _ _ _
                        refine wpList_store_blk rfl 43 (.tmp 19) (.tmp 164) rfl V2.heap.size 0 43 Z43 cpp rfl rfl (by simpa using Blk.new V2 Z43.toArray 43) (by rw [HZ43.out, HP.out.1]; omega) (by rw [HP.out.1]; exact size43) HP.out.2.1 ?_
                        intro V3 hb5 hg5
                        have hV3 : Below V2.heap.size V2 V3 := (below_al V2 _).grown hg5.out (below_al V2 _).size (fun j hj => by cases hj; exact Nat.le_refl _)
                        obtain ⟨g19, hg⟩ : ∃ g, V2.heap.size = g := ⟨_, rfl⟩
                        rw [hg] at hb5 ⊢
                        have hbk : Blk V3 g19 43 cpp := by
                          have := hb5.out
                          rw [List.take_zero, List.nil_append, List.drop_of_length_le (by rw [HZ43.out, HP.out.1]; omega), List.append_nil] at this
                          exact this
                        have h23 := below_tr hb2 hV3
                        have HV3 : Hid (VI w V3 b M' (i + 1 + 1) (zl.eraseIdx k) (.slice b8 m2 l8) (.slice b9 m2 l9) ∧ Blk V3 g19 43 cpp) := ⟨HJ.out.2.1.below h23, hbk⟩
                        obtain ⟨s16, hs16, hst16, hx16⟩ := (HTT.out.1.below h23).sl
                        obtain ⟨s17, hs17, hst17, hx17⟩ := (HTT.out.2.below h23).sl
                        subst hs16
                        subst hs17
                        have HST : Hid (Strs V3 s17.a s17.n (foldW (side (zl.eraseIdx k) false)) ∧ Strs V3 nn.a nn.n (foldW (side (zl.eraseIdx k) false))) := ⟨hst17, HNM.out.2.below hV3⟩
                        have HTX := texts_same _ y s16 V3 (HNM.out.1.below hV3) hst16 (by have := HLN.out.1; omega)
                        have e36 : V3.cell? ⟨g19, 36, none⟩ = some (.slice y.a y.n y.c) := hbk.cell HP.out.2.2.1
                        clear hb2 hb5 hg5 hV3 hg hbk h23 hst16 hst17 hx16 hx17
                        go_wp2_with fail
                        refine HTX.mono ?_
                        rintro e V4 ⟨rfl, hb4⟩
                        have HV4' : Hid (VI w V4 b M' (i + 1 + 1) (zl.eraseIdx k) (.slice b8 m2 l8) (.slice b9 m2 l9)) := HV3.out.1.below hb4
                        have HTX2 := texts_same _ nn s17 V4 (HST.out.2.below hb4) (HST.out.1.below hb4) (by have := HLN.out.2; omega)
                        have e37 : V4.cell? ⟨g19, 37, none⟩ = some (.slice nn.a nn.n nn.c) := (HV3.out.2.below hb4 HV3.out.2.lt).cell HP.out.2.2.2
                        clear HTX hb4 e36
                        go_wp2_with fail
                        refine HTX2.mono ?_
                        rintro e V5' ⟨rfl, hb5⟩
                        have HX5 : Hid (VI w V5' b M' (i + 1 + 1) (zl.eraseIdx k) (.slice b8 m2 l8) (.slice b9 m2 l9) ∧ OM M' au (turnV vs (bk x.user) 0) ∧ Rv au (turnV vs (bk x.user) 0) (zl.eraseIdx k)) := ⟨HV4'.out.below hb5, HO.out.2⟩
                        clear HTX2 hb5 e37
                        go_wp2
                        go_roundw
                        case rel => exact ⟨i + 1, M', zl.eraseIdx k, (turnV vs (bk x.user) 0), by simp, HQ.out, HX5.out⟩
                        case measure =>
                          have := HQ.out
                          simp only [intOf]
                          omega
                      · have HJM : Hid (j < m2) := by have := HJ.out.1; show _ < _; omega
                        have q5 : (j : Int) < (m2 : Int) := by have := HJM.out; omega
                        obtain ⟨z', hz'⟩ : ∃ zz, (zl.eraseIdx k)[j]? = some zz := ⟨_, List.getElem?_eq_getElem (by rw [HM2.out]; exact HJM.out)⟩
                        obtain ⟨g8, g9, e8, e9, _, _, d8, d9⟩ := HJ.out.2.1.at hz'
                        cases e8
                        cases e9
                        have HZJ : Hid ((zl.eraseIdx k)[j]? = some z') := hz'
                        clear hj hz'
                        cases hzb : z'.2
                        · rw [hzb] at d9
                          have HW := with_is z'.1 _ u17 wr HJ.out.2.2.2 (HZN.out _ _)
                          have HZB : Hid (z'.2 = false) := hzb
                          clear hzb
                          go_wp2_with fail
                          refine HW.mono ?_
                          rintro e W2 ⟨v', rfl, hts, hb2⟩
                          have HWV : Hid _ := HJ.out.2.1.below hb2
                          have HW2 : Hid (TS W2 u16 (foldW (side ((zl.eraseIdx k).take (j + 1)) true)) ∧ TS W2 v' (foldW (side ((zl.eraseIdx k).take (j + 1)) false))) := ⟨(HJ.out.2.2.1.below hb2).other HZJ.out (by rw [HZB.out]; decide), hts.mine HZJ.out HZB.out⟩
                          clear HW hts hb2 d8 d9
                          go_wp2
                          go_roundw
                          case rel => exact ⟨j + 1, by simp, HJM.out, HWV.out, HW2.out⟩
                          case measure =>
                            have := HJM.out
                            simp only [intOf]
                            omega
                        · rw [hzb] at d9
                          have HW := with_is z'.1 _ u16 wr HJ.out.2.2.1 (HZN.out _ _)
                          have HZB : Hid (z'.2 = true) := hzb
                          clear hzb
                          go_wp2_with fail
                          refine HW.mono ?_
                          rintro e W2 ⟨v', rfl, hts, hb2⟩
                          have HWV : Hid _ := HJ.out.2.1.below hb2
                          have HW2 : Hid (TS W2 v' (foldW (side ((zl.eraseIdx k).take (j + 1)) true)) ∧ TS W2 u17 (foldW (side ((zl.eraseIdx k).take (j + 1)) false))) := ⟨hts.mine HZJ.out HZB.out, (HJ.out.2.2.2.below hb2).other HZJ.out (by rw [HZB.out]; decide)⟩
                          clear HW hts hb2 d8 d9
                          go_wp2
                          go_roundw
                          case rel => exact ⟨j + 1, by simp, HJM.out, HWV.out, HW2.out⟩
                          case measure =>
                            have := HJM.out
                            simp only [intOf]
                            omega
                  · have kk1 : (x.kind == 1) = false := by simpa using k1
                    have kk2 : (x.kind == 2) = false := by simpa using k2
                    have HO : Hid (VI w wr b M (i + 1 + 1) zl (.slice (some ⟨g8, 0, none⟩) m k8) (.slice (some ⟨g9, 0, none⟩) m k9) ∧ OM M au vs ∧ Rv au vs zl) := ⟨HV4.out.1.more HI9.out, HI.out.2⟩
                    have HM2 : Hid (zl.length = m) := HM.out.1
                    clear c2 c36
                    have HT0 : Hid (TS wr (.slice none 0 0) (foldW (side ((zl).take 0) true)) ∧ TS wr (.slice none 0 0) (foldW (side ((zl).take 0) false))) := ⟨.inl ⟨rfl, rfl⟩, .inl ⟨rfl, rfl⟩⟩
                    have qm2 : (m : Int) ≤ 1000 := by have h1 := HM2.out; have h2 := HO.out.1.nz; have h3 := HI9.out; omega
                    have HZN : Hid (∀ so j, (foldW (side ((zl).take j) so)).length ≤ 1000) := fun so j => (fold_small HO.out.1.nz HI9.out so j).1
                    go_wp2
                    have hd53 : decide (j < m) = false := decide_eq_false (by omega)
                    simp only [hd53]
                    clear hd53
                    go_loopw [141, 16, 17] (fun u v16 v17 W => ∃ j : Nat, u = iv j ∧ Hid (j ≤ m ∧ VI w W b M (i + 1 + 1) (zl) (.slice (some ⟨g8, 0, none⟩) m k8) (.slice (some ⟨g9, 0, none⟩) m k9) ∧ TS W v16 (foldW (side ((zl).take j) true)) ∧ TS W v17 (foldW (side ((zl).take j) false)))) (fun u _ _ _ => m - (intOf u).toNat)
                    case atStart => exact ⟨0, rfl, Nat.zero_le _, HO.out.1, HT0.out⟩
                    case round =>
                      obtain ⟨j, rfl, HJ⟩ := hrel
                      by_cases hj : j = m
                      · have q5 : (m : Int) ≤ (j : Int) := by omega
                        have HTT : Hid (TS wr u16 (foldW (side (zl) true)) ∧ TS wr u17 (foldW (side (zl) false))) := ⟨HJ.out.2.2.1.all hj HM2.out, HJ.out.2.2.2.all hj HM2.out⟩
                        have HLN : Hid ((foldW (side (zl) true)).length ≤ 1000 ∧ (foldW (side (zl) false)).length ≤ 1000) := ⟨(fold_small HO.out.1.nz HI9.out true 0).2, (fold_small HO.out.1.nz HI9.out false 0).2⟩
                        have HPR := proposal_is HJ.out.2.1.brd 1
                        clear hj
                        go_wp2_with fail
                        refine HPR.mono ?_
                        rintro e V2 ⟨pp, is, rfl, htold, hb2⟩
                        obtain ⟨p, hat, _, _, hvs⟩ := HO.out.2.1.at
                        unfold ToldB at htold
                        rw [hat] at htold
                        obtain ⟨rfl, y, nn, t, hpp, hpl, hy, hno, _⟩ := htold
                        have HNM : Hid (Strs V2 y.a y.n (foldW (side (zl) true)) ∧ Strs V2 nn.a nn.n (foldW (side (zl) false))) := HO.out.2.2.names hvs hy hno
                        obtain ⟨cpp, hcpp⟩ : ∃ c, pp.cells = c := ⟨_, rfl⟩
                        have HP : Hid (cpp.length = 39 ∧ (∀ v ∈ cpp, v.oneCell' = true) ∧ cpp[36]? = some (.slice y.a y.n y.c) ∧ cpp[37]? = some (.slice nn.a nn.n nn.c)) := by
                          rw [← hcpp, hpp]; exact ⟨Pp.length hpl, Pp.one _, Pp.tail hpl 1, Pp.tail hpl 2⟩
                        rw [hcpp]
                        clear HPR hpp hcpp hy hno hat hvs hpl
                        go_wp2_with (with_reducible change wpList _ _ _ ({ dst := none, op := Op.store _ _ _, type := _, pos := _, after := _, guard := _ } :: _) _ _; refine Hid.out ?_)
                        show wpList _ _ _ _ _ _
                        refine wpList_store_blk rfl 43 (.tmp 19) (.tmp 164) rfl V2.heap.size 0 43 Z43 cpp rfl rfl (by simpa using Blk.new V2 Z43.toArray 43) (by rw [HZ43.out, HP.out.1]; omega) (by rw [HP.out.1]; exact size43) HP.out.2.1 ?_
                        intro V3 hb5 hg5
                        have hV3 : Below V2.heap.size V2 V3 := (below_al V2 _).grown hg5.out (below_al V2 _).size (fun j hj => by cases hj; exact Nat.le_refl _)
                        obtain ⟨g19, hg⟩ : ∃ g, V2.heap.size = g := ⟨_, rfl⟩
                        rw [hg] at hb5 ⊢
                        have hbk : Blk V3 g19 43 cpp := by
                          have := hb5.out
                          rw [List.take_zero, List.nil_append, List.drop_of_length_le (by rw [HZ43.out, HP.out.1]; omega), List.append_nil] at this
                          exact this
                        have h23 := below_tr hb2 hV3
                        have HV3 : Hid (VI w V3 b M (i + 1 + 1) (zl) (.slice (some ⟨g8, 0, none⟩) m k8) (.slice (some ⟨g9, 0, none⟩) m k9) ∧ Blk V3 g19 43 cpp) := ⟨HJ.out.2.1.below h23, hbk⟩
                        obtain ⟨s16, hs16, hst16, hx16⟩ := (HTT.out.1.below h23).sl
                        obtain ⟨s17, hs17, hst17, hx17⟩ := (HTT.out.2.below h23).sl
                        subst hs16
                        subst hs17
                        have HST : Hid (Strs V3 s17.a s17.n (foldW (side (zl) false)) ∧ Strs V3 nn.a nn.n (foldW (side (zl) false))) := ⟨hst17, HNM.out.2.below hV3⟩
                        have HTX := texts_same _ y s16 V3 (HNM.out.1.below hV3) hst16 (by have := HLN.out.1; omega)
                        have e36 : V3.cell? ⟨g19, 36, none⟩ = some (.slice y.a y.n y.c) := hbk.cell HP.out.2.2.1
                        clear hb2 hb5 hg5 hV3 hg hbk h23 hst16 hst17 hx16 hx17
                        go_wp2_with fail
                        refine HTX.mono ?_
                        rintro e V4 ⟨rfl, hb4⟩
                        have HV4' : Hid (VI w V4 b M (i + 1 + 1) (zl) (.slice (some ⟨g8, 0, none⟩) m k8) (.slice (some ⟨g9, 0, none⟩) m k9)) := HV3.out.1.below hb4
                        have HTX2 := texts_same _ nn s17 V4 (HST.out.2.below hb4) (HST.out.1.below hb4) (by have := HLN.out.2; omega)
                        have e37 : V4.cell? ⟨g19, 37, none⟩ = some (.slice nn.a nn.n nn.c) := (HV3.out.2.below hb4 HV3.out.2.lt).cell HP.out.2.2.2
                        clear HTX hb4 e36
                        go_wp2_with fail
                        refine HTX2.mono ?_
                        rintro e V5' ⟨rfl, hb5⟩
                        have HX5 : Hid (VI w V5' b M (i + 1 + 1) (zl) (.slice (some ⟨g8, 0, none⟩) m k8) (.slice (some ⟨g9, 0, none⟩) m k9) ∧ OM M au vs ∧ Rv au vs (zl)) := ⟨HV4'.out.below hb5, HO.out.2⟩
                        clear HTX2 hb5 e37
                        go_wp2
                        go_roundw
                        case rel => exact ⟨i + 1, M, zl, vs, by simp, HQ.out, HX5.out⟩
                        case measure =>
                          have := HQ.out
                          simp only [intOf]
                          omega
                      · have HJM : Hid (j < m) := by have := HJ.out.1; show _ < _; omega
                        have q5 : (j : Int) < (m : Int) := by have := HJM.out; omega
                        obtain ⟨z', hz'⟩ : ∃ zz, (zl)[j]? = some zz := ⟨_, List.getElem?_eq_getElem (by rw [HM2.out]; exact HJM.out)⟩
                        obtain ⟨g8, g9, e8, e9, _, _, d8, d9⟩ := HJ.out.2.1.at hz'
                        cases e8
                        cases e9
                        have HZJ : Hid ((zl)[j]? = some z') := hz'
                        clear hj hz'
                        cases hzb : z'.2
                        · rw [hzb] at d9
                          have HW := with_is z'.1 _ u17 wr HJ.out.2.2.2 (HZN.out _ _)
                          have HZB : Hid (z'.2 = false) := hzb
                          clear hzb
                          go_wp2_with fail
                          refine HW.mono ?_
                          rintro e W2 ⟨v', rfl, hts, hb2⟩
                          have HWV : Hid _ := HJ.out.2.1.below hb2
                          have HW2 : Hid (TS W2 u16 (foldW (side ((zl).take (j + 1)) true)) ∧ TS W2 v' (foldW (side ((zl).take (j + 1)) false))) := ⟨(HJ.out.2.2.1.below hb2).other HZJ.out (by rw [HZB.out]; decide), hts.mine HZJ.out HZB.out⟩
                          clear HW hts hb2 d8 d9
                          go_wp2
                          go_roundw
                          case rel => exact ⟨j + 1, by simp, HJM.out, HWV.out, HW2.out⟩
                          case measure =>
                            have := HJM.out
                            simp only [intOf]
                            omega
                        · rw [hzb] at d9
                          have HW := with_is z'.1 _ u16 wr HJ.out.2.2.1 (HZN.out _ _)
                          have HZB : Hid (z'.2 = true) := hzb
                          clear hzb
                          go_wp2_with fail
                          refine HW.mono ?_
                          rintro e W2 ⟨v', rfl, hts, hb2⟩
                          have HWV : Hid _ := HJ.out.2.1.below hb2
                          have HW2 : Hid (TS W2 v' (foldW (side ((zl).take (j + 1)) true)) ∧ TS W2 u17 (foldW (side ((zl).take (j + 1)) false))) := ⟨hts.mine HZJ.out HZB.out, (HJ.out.2.2.2.below hb2).other HZJ.out (by rw [HZB.out]; decide)⟩
                          clear HW hts hb2 d8 d9
                          go_wp2
                          go_roundw
                          case rel => exact ⟨j + 1, by simp, HJM.out, HWV.out, HW2.out⟩
                          case measure =>
                            have := HJM.out
                            simp only [intOf]
                            omega
            · have HJM : Hid (j < m) := by have := HJ.out.1; show _ < _; omega
              have q4 : (j : Int) < (m : Int) := by have := HJM.out; omega
              have q5 : j < m := HJM.out
              obtain ⟨z, hz⟩ : ∃ z, zl[j]? = some z := ⟨_, List.getElem?_eq_getElem (by rw [HM.out.1]; exact HJM.out)⟩
              obtain ⟨g8, g9, e8, e9, l8, l9, d8, d9⟩ := HJ.out.2.2.1.at hz
              cases e8
              cases e9
              obtain ⟨_, _, c2, _, _, _⟩ := ActV.cell (o := 0) HOK.out.2.2.2.2 HJ.out.2.2.2.range0
              rw [Nat.zero_add] at c2
              have HBL : Hid (g8 < wr.heap.size ∧ g < wr.heap.size) := ⟨l8, HJ.out.2.2.2.lt⟩
              have HZJ : Hid (zl[j]? = some z) := hz
              clear hj hz l8 l9 d9
              cases hr : (z.1.toList == x.user.toList)
              · have HNE : Hid (z.1 ≠ x.user) := by show _ ≠ _; rw [eq_iff] at hr; simpa using hr
                go_wp2_with fail
                refine vot16 HBL d8 c2 q4 q5 hr ?_
                intro V hV
                have HV : Hid (VI w V b M (i + 1) zl _ _ ∧ Blk V g 34 x.cells) := ⟨HJ.out.2.2.1.below hV, HJ.out.2.2.2.below hV HJ.out.2.2.2.lt⟩
                have HF : Hid (Fd zl x.user (j + 1) u12) := HJ.out.2.1.no HZJ.out HNE.out
                clear hV d8 c2 hr
                go_wp2
                go_roundw
                case rel => exact ⟨j + 1, by simp, HJM.out, HF.out, HV.out⟩
                case measure =>
                  have := HJM.out
                  simp only [intOf]
                  omega
              · have HEQ : Hid (z.1 = x.user) := by show _ = _; rw [eq_iff] at hr; simpa using hr
                go_wp2_with fail
                refine vot16 HBL d8 c2 q4 q5 hr ?_
                intro V hV
                have HV : Hid (VI w V b M (i + 1) zl _ _ ∧ Blk V g 34 x.cells) := ⟨HJ.out.2.2.1.below hV, HJ.out.2.2.2.below hV HJ.out.2.2.2.lt⟩
                have HF : Hid (Fd zl x.user (j + 1) (iv (j : Int))) := Fd.yes HZJ.out HEQ.out
                clear hV d8 c2 hr
                go_wp2
                go_roundw
                case rel => exact ⟨j + 1, by simp, HJM.out, HF.out, HV.out⟩
                case measure =>
                  have := HJM.out
                  simp only [intOf]
                  omega
#print axioms votes_law
end Go.Proofs.Ytaecigpjcbjcbaa.Oct
