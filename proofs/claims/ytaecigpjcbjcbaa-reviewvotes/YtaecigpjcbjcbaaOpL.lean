/-
  Layer 20 (review): ReviewOpen.
-/
import Derived.Test.YtaecigpjcbjcbaaOpP
namespace Go.Proofs.Ytaecigpjcbjcbaa.Oct
open Go.RowKit
set_option linter.unusedSimpArgs false
set_option linter.unusedVariables false

/-- what the law's loop keeps -/
structure OInv (w wr : World) (b : Nat) (M : Br) (i : Nat) (cl : List Nat) (v4 : Value) : Prop where
  brd : BAt wr b M i
  bel : Below w.heap.size w wr
  blo : ∀ j ∈ M.bl b, w.heap.size ≤ j
  row : wr.ownsRow w.heap.size 3 1 v4 cl.length (opnC cl)
  rowb : ∀ g, v4.ownBlock = some g → g ∉ M.bl b
  ncl : cl.length ≤ i
  rel : OkO M cl
theorem OInv.below {w wr wr' : World} {b : Nat} {M : Br} {i : Nat} {cl : List Nat} {v4 : Value} (h : OInv w wr b M i cl v4) (hb : Below wr.heap.size wr wr') : OInv w wr' b M i cl v4 :=
  ⟨h.brd.below hb, below_tr h.bel hb, h.blo, ownsRow_below h.row hb, h.rowb, h.ncl, h.rel⟩
theorem own_same {w w' : World} {B e sz n : Nat} {v : Value} {cs : List Value} (h : w.ownsRow B e sz v n cs) (hs : ∀ g, v.ownBlock = some g → w'.heap[g]? = w.heap[g]?) : w'.ownsRow B e sz v n cs := by
  refine ⟨h.1, ?_⟩
  rcases h.2 with hn | ⟨g, cap, cur, rfl, hB, hb, hr⟩
  · exact .inl hn
  · exact .inr ⟨g, cap, cur, rfl, hB, (hs g rfl).trans hb, hr⟩
/-- a call of the board -/
theorem OInv.call {w wr wr' : World} {b : Nat} {M M' : Br} {i : Nat} {cl : List Nat} {v4 : Value} (h : OInv w wr b M i cl v4) (hB : BAt wr' b M' (i + 1)) (ha : BAfter wr b M M' wr') (hr : OkO M' cl) : OInv w wr' b M' (i + 1) cl v4 := by
  have h1 := ha.below h.bel.size h.blo
  refine ⟨hB, h.bel.trans h1.1, h1.2, own_same h.row fun g hg => (ha.other (h.row.lt g hg).2 (h.rowb g hg)).1, fun g hg => (ha.other (h.row.lt g hg).2 (h.rowb g hg)).2.1, by have := h.ncl; omega, hr⟩
theorem OInv.more {w wr : World} {b : Nat} {M : Br} {i : Nat} {cl : List Nat} {v4 : Value} (h : OInv w wr b M i cl v4) (hi : i + 1 ≤ 1000) : OInv w wr b M (i + 1) cl v4 :=
  ⟨h.brd.more hi, h.bel, h.blo, h.row, h.rowb, by have := h.ncl; omega, h.rel⟩
theorem nums_own {w : World} {B n : Nat} {v : Value} {l : List Nat} (h : w.ownsRow B 3 1 v n (opnC l)) : ∃ a c, v = .slice a n c ∧ n ≤ c ∧ Nums w a n l := Ow.nums (own_base h (Nat.zero_le _))
theorem told_is {B : Nat} {w : World} {M : Br} {x : Int} {pp : Pp} {is : Bool} (h : ToldB B w M x pp is) : is = (M.at? x).isSome ∧ pp.cells.length = 39 := by
  unfold ToldB at h
  cases hp : M.at? x with
  | none => rw [hp] at h; obtain ⟨rfl, rfl⟩ := h; exact ⟨rfl, zero_len⟩
  | some p => rw [hp] at h; obtain ⟨rfl, y, n, t, rfl, hl, _⟩ := h; exact ⟨rfl, Pp.length hl⟩
theorem OkO.at {M : Br} {cl : List Nat} (h : OkO M cl) {j x : Nat} (hx : M.opn[j]? = some x) : ∃ p, M.at? (x : Int) = some p := by
  have h1 := h.opn x (List.mem_of_getElem? hx)
  refine ⟨M.props[x - 1]'(by omega), ?_⟩
  unfold Br.at?
  rw [if_pos (by omega)]
  have e : ((x : Int) - 1).toNat = x - 1 := by omega
  rw [e, List.getElem?_eq_getElem]
theorem OkO.differ {M : Br} {cl : List Nat} (h : OkO M cl) {j k x y : Nat} (hx : M.opn[j]? = some x) (hy : M.opn[k]? = some y) (hne : k ≠ j) {p q : Pr} (hp : M.at? (x : Int) = some p) (hq : M.at? (y : Int) = some q) : ¬(p.channel = q.channel ∧ p.patch = q.patch) := by
  rintro ⟨h1, h2⟩
  have hxy : x ≠ y := fun e => by
    subst e
    obtain ⟨l1, e1⟩ := List.getElem?_eq_some_iff.1 hx
    obtain ⟨l2, e2⟩ := List.getElem?_eq_some_iff.1 hy
    exact hne ((List.getElem_inj h.nodup).1 (e2.trans e1.symm))
  refine h.apart x y (List.mem_of_getElem? hx) (List.mem_of_getElem? hy) hxy ?_
  obtain ⟨k1, e1, _, _, f1⟩ := at_range hp
  obtain ⟨k2, e2, _, _, f2⟩ := at_range hq
  have g1 : x = k1 := by omega
  have g2 : y = k2 := by omega
  subst g1
  subst g2
  unfold chp
  rw [f1, f2]
  simp [h1, h2]
theorem wpList_append_ownAt {P : Program} {ops : Array Oper} {rest : List Oper} {o : Oper} {a : Act} {Q : Exit → Act → World → Prop} (hgd : o.guard = none) (s x : Operand) (t : TypeId)
    (hop : o.op = .call { callee := .builtin .append, args := #[s, x], argTypes := #[t, t] }) (w : World) (e : TypeId) (i : TypeInfo) (z : Value) (sz B : Nat) (ht : P.underlying t = some (.slice e)) (hi : P.info? e = some i) (hz : i.zero = some z) (hs : i.size = sz) (hby : i.bytes ≤ 1000) (hzs : z.cells.size = sz) (hsz : 0 < sz)
    (v : Value) (n : Nat) (cs : List Value) (h : w.ownsRow B e sz v n cs) (g q c : Nat) (qs : List Value) (hsv : a.eval s = v) (hx : a.eval x = .slice (some ⟨g, 0, none⟩) q c) (hl : qs.length = q * sz) (hq : w.rangeAt g 0 qs) (h1 : ∀ u ∈ qs, u.oneCell' = true) (hB : B ≤ w.heap.size) (hn : n + q ≤ 1000000)
    (hk : ∀ v' w', Hid (w'.ownsRow B e sz v' (n + q) (cs ++ qs)) → Hid (w.grownBy w' v.ownBlock) → Hid (v'.ownBlock = v.ownBlock ∨ v'.ownBlock = some w.heap.size) → wpList P ops Q rest (a.put o.dst v') w') : wpList P ops Q (o :: rest) a w := by
  refine wpList_plain hgd fun K hK => ?_
  obtain ⟨v', w', hr, h2, h3, _, h5⟩ := run_append_own_at (P := P) w B t o.type e i z sz i.bytes ht hi hz hs rfl hzs hsz v n cs h ⟨g, 0, none⟩ q c qs hl (fun j u hu => by rw [Addr.add_lit]; exact hq j u hu) h1 (by unfold maxLen; omega) (Nat.le_trans (Nat.mul_le_mul_left _ hby) (by omega)) hB
  unfold Oper.wp execOp
  simp only [hop, resolve, invoke, builtin, Sem.run_bind, Sem.run_pure, Result.andThen_ok, List.map_toArray, List.map_cons, List.map_nil, hsv, hx, hr]
  exact hK _ _ (hk v' w' h2 h3 h5)
set_option maxRecDepth 100000 in
set_option maxHeartbeats 16000000 in
theorem open_law (l : List ActV) (a : Option Addr) (n cp : Nat) (w : World) (hl : ArgA w a n cp l) :
    Calls Try.prog 7 #[.slice a n cp] w fun e w' => e = .returned (.bool true) ∧ Below w.heap.size w w' := by
  have HFEW := few_is l a n cp w hl
  have HL : Hid (ArgA w a n cp l) := hl
  have qn : (n : Int) ≤ 140737488355328 := by have := hl.2.1; omega
  have HLV := fun W => lives_is W
  obtain ⟨Z, hZ, hz⟩ := zero34_ex
  have HZ : Hid (Z.length = 37) := hZ
  obtain ⟨Z43, hZ43⟩ : ∃ Z, Pp.zero.cells = Z := ⟨_, rfl⟩
  have hz43 := zero43
  rw [hZ43] at hz43
  have HZ43 : Hid (Z43.length = 39) := by show _ = _; rw [← hZ43]; exact zero_len
  clear hl hZ hZ43
  go_enter Try.func7, Try.ntmps7
  go_wp2_with fail
  refine HFEW.mono ?_
  rintro e w1 ⟨r, rfl, hr, hb1⟩
  have HB1 : Hid (Below w.heap.size w w1) := hb1
  cases r with
  | false =>
    have HLW := HLV w1
    clear HFEW hr hb1
    go_wp2_with fail
    refine HLW.mono ?_
    rintro e w2 ⟨rfl, hb2⟩
    have HB2 : Hid (Below w.heap.size w w2) := below_tr HB1.out hb2
    clear HLW hb2
    go_wp2_with fail
    go_ret
    exact ⟨rfl, HB2.out⟩
  | true =>
    have HN : Hid (n ≤ 150) := hr rfl
    have HNEW := new_is w1
    clear HFEW hr hb1
    go_wp2_with fail
    refine HNEW.mono ?_
    rintro e w2 ⟨rfl, hB0, hb2⟩
    obtain ⟨b, hbb⟩ : ∃ b, w1.heap.size = b := ⟨_, rfl⟩
    rw [hbb] at hB0 ⊢
    have HO0 : Hid (OInv w w2 b ⟨.slice none 0 0, .slice none 0 0, [], []⟩ 0 [] (.slice none 0 0)) := by
      refine ⟨hB0, below_tr HB1.out hb2, ?_, ⟨rfl, .inl ⟨rfl, rfl⟩⟩, (fun g hg => by cases hg), Nat.le_refl _, OkO.new⟩
      intro j hj
      simp [Br.bl, Value.ownBlock] at hj
      rw [hj, ← hbb]
      exact HB1.out.size
    clear HNEW hB0 hb2 hbb
    go_wp2
    go_loopw [29, 5, 4] (fun u v v4 wr => ∃ (i k : Nat) (M : Br) (cl : List Nat), u = iv i ∧ v = iv k ∧ i ≤ n ∧ M.props.length = k ∧ Hid (OInv w wr b M i cl v4)) (fun u _ _ _ => n - (intOf u).toNat)
    case atStart => exact ⟨0, 0, _, [], rfl, rfl, Nat.zero_le _, rfl, HO0⟩
    case round =>
      obtain ⟨i, k, M, cl, rfl, rfl, hin, hMk, HI⟩ := hrel
      have HMK : Hid (M.props.length = k) := hMk
      by_cases hi : i = n
      · have q1 : (n : Int) ≤ (i : Int) := by omega
        obtain ⟨ca, cc, hvc, _, _⟩ := nums_own HI.out.row
        subst hvc
        have HOP := open_is HI.out.brd
        clear hi hin hMk HMK
        go_wp2_with fail
        refine HOP.mono ?_
        rintro e V1 ⟨v13, rfl, ho1, hb1⟩
        obtain ⟨m, hm⟩ : ∃ m, M.opn.length = m := ⟨_, rfl⟩
        have qm : (m : Int) ≤ 1000 := by have := HI.out.brd.nopn; have := HI.out.brd.nprops; have := HI.out.brd.few; omega
        rw [hm] at ho1
        obtain ⟨oa, oc, rfl, hoc, hno⟩ := nums_own ho1
        have HN1 : Hid (Nums V1 oa m M.opn) := hno
        have HE1 : Hid (OInv w V1 b M i cl (.slice ca cl.length cc)) := HI.out.below hb1
        have qoc : (m : Int) ≤ (oc : Int) := by omega
        clear HOP ho1 hb1 hoc hno hm q1
        go_wp2
        go_loopw [124] (fun u W => ∃ j : Nat, u = iv j ∧ Hid (j ≤ m ∧ OInv w W b M i cl (.slice ca cl.length cc) ∧ Nums W oa m M.opn)) (fun u _ => m - (intOf u).toNat)
        case atStart => exact ⟨0, rfl, Nat.zero_le _, HE1.out, HN1.out⟩
        case round =>
          obtain ⟨j, rfl, HJ⟩ := hrel
          by_cases hj : j = m
          · have q2 : (m : Int) ≤ (j : Int) := by omega
            have HLW := HLV wr
            clear hj
            go_wp2_with fail
            refine HLW.mono ?_
            rintro e w9 ⟨rfl, hb9⟩
            have HB9 : Hid (Below w.heap.size w w9) := below_tr HJ.out.2.1.bel hb9
            clear HLW hb9
            go_wp2_with fail
            go_ret
            exact ⟨rfl, HB9.out⟩
          · have HJM : Hid (j < m) := by have := HJ.out.1; show _ < _; omega
            have q2 : (j : Int) < (m : Int) := by have := HJM.out; omega
            obtain ⟨ob, oo, ha, hbl, hc⟩ := HJ.out.2.2.2 (by have := HJM.out; omega)
            subst ha
            obtain ⟨x, hx⟩ : ∃ x, M.opn[j]? = some x := ⟨_, List.getElem?_eq_getElem (by rw [HJ.out.2.2.1]; exact HJM.out)⟩
            have c0 := hc j x hx
            have HX : Hid (M.opn[j]? = some x) := hx
            obtain ⟨p, hp⟩ := HJ.out.2.1.rel.at hx
            have HAT : Hid (M.at? (x : Int) = some p) := hp
            have hopx : hasN M.opn (x : Int) = true := hasN_nat.2 (List.mem_of_getElem? hx)
            have HCL : Hid (hasN cl (x : Int) = false) := by
              have h3 := HJ.out.2.1.rel.turn hp
              rw [hopx] at h3
              show _ = _
              cases hh : hasN cl (x : Int)
              · rfl
              · rw [hh] at h3; cases h3
            have HOPX : Hid (hasN M.opn (x : Int) = true) := hopx
            have HPR := proposal_is HJ.out.2.1.brd (x : Int)
            clear hj hbl hc hx hp hopx
            go_wp2_with fail
            refine HPR.mono ?_
            rintro e V2 ⟨pp, is, rfl, htold, hb2⟩
            have hPc : ∃ P : Pp, P = pp ∧ P.channel = p.channel ∧ P.patch = p.patch ∧ P.opn = hasN M.opn (x : Int) ∧ P.patch.length = 32 ∧ is = true := by
              unfold ToldB at htold
              rw [HAT.out] at htold
              obtain ⟨h1, y, n', t, h2, h3, _⟩ := htold
              subst h2
              exact ⟨_, rfl, rfl, rfl, rfl, h3, h1⟩
            obtain ⟨P, rfl, hPa, hPb, hPo, hPl, rfl⟩ := hPc
            obtain ⟨cpp, hcpp⟩ : ∃ c, (P).cells = c := ⟨_, rfl⟩
            have HP : Hid (cpp.length = 39 ∧ (∀ v ∈ cpp, v.oneCell' = true) ∧ (P).cells = cpp ∧ (P).channel = p.channel ∧ (P).patch = p.patch ∧ (P).opn = hasN M.opn (x : Int) ∧ (P).patch.length = 32) := by rw [← hcpp]; exact ⟨Pp.length hPl, Pp.one _, rfl, hPa, hPb, hPo, hPl⟩
            rw [hcpp]
            clear HPR htold hcpp hPa hPb hPo hPl
            go_wp2_with (with_reducible change wpList _ _ _ ({ dst := none, op := Op.store _ _ _, type := _, pos := _, after := _, guard := _ } :: _) _ _; refine Hid.out ?_)
            show wpList _ _ _ _ _ _
            refine wpList_store_blk rfl 43 (.tmp 16) (.tmp 133) rfl V2.heap.size 0 43 Z43 cpp rfl rfl (by simpa using Blk.new V2 Z43.toArray 43) (by rw [HZ43.out, HP.out.1]; omega) (by rw [HP.out.1]; exact size43) HP.out.2.1 ?_
            intro V3 hb5 hg5
            have hV3 : Below V2.heap.size V2 V3 := (below_al V2 _).grown hg5.out (below_al V2 _).size (fun j hj => by cases hj; exact Nat.le_refl _)
            obtain ⟨g, hg⟩ : ∃ g, V2.heap.size = g := ⟨_, rfl⟩
            rw [hg] at hb5 ⊢
            have hbk : Blk V3 g 43 (P).cells := by
              have := hb5.out
              rw [List.take_zero, List.nil_append, List.drop_of_length_le (by rw [HZ43.out, HP.out.1]; omega), List.append_nil] at this
              rw [HP.out.2.2.1]
              exact this
            have h23 := below_tr hb2 hV3
            have HV3 : Hid (OInv w V3 b M i cl (.slice ca cl.length cc) ∧ Nums V3 (some ⟨ob, oo, none⟩) m M.opn ∧ Blk V3 g 43 P.cells) := ⟨HJ.out.2.1.below h23, HJ.out.2.2.below h23, hbk⟩
            clear hb2 hb5 hg5 hV3 hg hbk h23 c0
            obtain ⟨_, _, _, _, c35, _, _, _⟩ := Pp.cell HP.out.2.2.2.2.2.2 HV3.out.2.2.range0
            rw [HP.out.2.2.2.2.2.1, HOPX.out] at c35
            obtain ⟨ca', cc', hvc, _, hcc⟩ := nums_own HV3.out.1.row
            cases hvc
            have HHO := holds_is x cl ca cl.length cc V3 hcc (by have := HV3.out.1.ncl; have := HV3.out.1.brd.few; omega)
            rw [HCL.out] at HHO
            clear hcc
            go_wp2_with fail
            refine HHO.mono ?_
            rintro e X0 ⟨rfl, rfl⟩
            clear HHO c35
            have qjc : (j : Int) ≤ (oc : Int) := by omega
            go_wp2
            go_loopw [151] (fun u W => ∃ k' : Nat, u = iv k' ∧ Hid (k' ≤ j ∧ OInv w W b M i cl (.slice ca cl.length cc) ∧ Nums W (some ⟨ob, oo, none⟩) m M.opn ∧ Blk W g 43 P.cells)) (fun u _ => j - (intOf u).toNat)
            case atStart => exact ⟨0, rfl, Nat.zero_le _, HV3.out⟩
            case round =>
              obtain ⟨k', rfl, HK⟩ := hrel
              by_cases hk : k' = j
              · have q3 : (j : Int) ≤ (k' : Int) := by omega
                clear hk
                go_wp2
                go_roundw
                case rel => exact ⟨j + 1, by simp, HJM.out, HK.out.2.1, HK.out.2.2.1⟩
                case measure =>
                  have := HJM.out
                  simp only [intOf]
                  omega
              · have HKJ : Hid (k' < j) := by have := HK.out.1; show _ < _; omega
                have q3 : (k' : Int) < (j : Int) := by have := HKJ.out; omega
                obtain ⟨ob', oo', ha, hbl, hc⟩ := HK.out.2.2.1.2 (by have := HJM.out; omega)
                cases ha
                obtain ⟨y, hy⟩ : ∃ y, M.opn[k']? = some y := ⟨_, List.getElem?_eq_getElem (by rw [HK.out.2.2.1.1]; have := HJM.out; have := HKJ.out; omega)⟩
                have c0 := hc k' y hy
                obtain ⟨q, hq⟩ := HK.out.2.1.rel.at hy
                have HAY : Hid (M.at? (y : Int) = some q) := hq
                have HNE : Hid (¬(p.channel = q.channel ∧ p.patch = q.patch)) := HK.out.2.1.rel.differ HX.out hy (by have := HKJ.out; omega) HAT.out hq
                have HPR := proposal_is HK.out.2.1.brd (y : Int)
                clear hk hbl hc hy hq
                go_wp2_with fail
                refine HPR.mono ?_
                rintro e V5 ⟨pp, is, rfl, htold, hb2⟩
                have hPc : ∃ P : Pp, P = pp ∧ P.channel = q.channel ∧ P.patch = q.patch ∧ P.opn = hasN M.opn (y : Int) ∧ P.patch.length = 32 ∧ is = true := by
                  unfold ToldB at htold
                  rw [HAY.out] at htold
                  obtain ⟨h1, y, n', t, h2, h3, _⟩ := htold
                  subst h2
                  exact ⟨_, rfl, rfl, rfl, rfl, h3, h1⟩
                obtain ⟨R, rfl, hPa, hPb, hPo, hPl, rfl⟩ := hPc
                obtain ⟨crr, hcpp⟩ : ∃ c, (R).cells = c := ⟨_, rfl⟩
                have HR : Hid (crr.length = 39 ∧ (∀ v ∈ crr, v.oneCell' = true) ∧ (R).cells = crr ∧ (R).channel = q.channel ∧ (R).patch = q.patch ∧ (R).opn = hasN M.opn (y : Int) ∧ (R).patch.length = 32) := by rw [← hcpp]; exact ⟨Pp.length hPl, Pp.one _, rfl, hPa, hPb, hPo, hPl⟩
                rw [hcpp]
                clear HPR htold hcpp hPa hPb hPo hPl
                go_wp2_with (with_reducible change wpList _ _ _ ({ dst := none, op := Op.store _ _ _, type := _, pos := _, after := _, guard := _ } :: _) _ _; refine Hid.out ?_)
                show wpList _ _ _ _ _ _
                refine wpList_store_blk rfl 43 (.tmp 20) (.tmp 159) rfl V5.heap.size 0 43 Z43 crr rfl rfl (by simpa using Blk.new V5 Z43.toArray 43) (by rw [HZ43.out, HR.out.1]; omega) (by rw [HR.out.1]; exact size43) HR.out.2.1 ?_
                intro V6 hb5 hg5
                have hV3 : Below V5.heap.size V5 V6 := (below_al V5 _).grown hg5.out (below_al V5 _).size (fun j hj => by cases hj; exact Nat.le_refl _)
                obtain ⟨g2, hg⟩ : ∃ g, V5.heap.size = g := ⟨_, rfl⟩
                rw [hg] at hb5 ⊢
                have hbk : Blk V6 g2 43 (R).cells := by
                  have := hb5.out
                  rw [List.take_zero, List.nil_append, List.drop_of_length_le (by rw [HZ43.out, HR.out.1]; omega), List.append_nil] at this
                  rw [HR.out.2.2.1]
                  exact this
                have h56 := below_tr hb2 hV3
                have HV6 : Hid (OInv w V6 b M i cl (.slice ca cl.length cc) ∧ Nums V6 (some ⟨ob, oo, none⟩) m M.opn ∧ Blk V6 g 43 P.cells ∧ Blk V6 g2 43 R.cells) := ⟨HK.out.2.1.below h56, HK.out.2.2.1.below h56, HK.out.2.2.2.below h56 HK.out.2.2.2.lt, hbk⟩
                clear hb2 hb5 hg5 hV3 hg hbk h56 c0
                obtain ⟨_, _, a2, a3, _, _, _, _⟩ := Pp.cell HP.out.2.2.2.2.2.2 HV6.out.2.2.1.range0
                obtain ⟨_, _, d2, d3, _, _, _, _⟩ := Pp.cell HR.out.2.2.2.2.2.2 HV6.out.2.2.2.range0
                rw [HP.out.2.2.2.1] at a2
                rw [HR.out.2.2.2.1] at d2
                rw [HP.out.2.2.2.2.1] at a3
                rw [HR.out.2.2.2.2.1] at d3
                have HL3 : Hid (p.patch.length = 32 ∧ q.patch.length = 32) := ⟨by have := HP.out.2.2.2.2.2.2; rwa [HP.out.2.2.2.2.1] at this, by have := HR.out.2.2.2.2.2.2; rwa [HR.out.2.2.2.2.1] at this⟩
                by_cases hch : p.channel = q.channel
                · have hbq : (p.channel.toList == q.channel.toList) = true := by rw [eq_iff]; simp [hch]
                  have heq := eqH p.patch q.patch HL3.out.1 HL3.out.2 V6
                  rw [decide_eq_false (fun h => HNE.out ⟨hch, h⟩)] at heq
                  obtain ⟨UP, hUP⟩ : ∃ L, U p.patch = L := ⟨_, rfl⟩
                  obtain ⟨UQ, hUQ⟩ : ∃ L, U q.patch = L := ⟨_, rfl⟩
                  have HUP : Hid (U p.patch = UP ∧ U q.patch = UQ ∧ V6.rangeAt g 3 (U p.patch) ∧ V6.rangeAt g2 3 (U q.patch)) := ⟨hUP, hUQ, a3, d3⟩
                  rw [hUP, hUQ] at heq
                  clear hUP hUQ a3 d3 hch
                  go_wp2_with (with_reducible change wpList _ _ _ ({ dst := some 168, op := _, type := _, pos := _, after := _, guard := _ } :: _) _ _; refine Hid.out ?_)
                  show wpList _ _ _ _ _ _
                  refine wpList_load_want rfl 32 (.tmp 167) rfl g 3 rfl UP _ (by rw [← HUP.out.1]; exact HUP.out.2.2.1) Try.underlying32 rfl (by rw [← HUP.out.1]; exact info32 _ HL3.out.1) ?_
                  simp only [Act.put, List.setIfInBounds_toArray, List.set_cons_zero, List.set_cons_succ]
                  go_wp2_with (with_reducible change wpList _ _ _ ({ dst := some 170, op := _, type := _, pos := _, after := _, guard := _ } :: _) _ _; refine Hid.out ?_)
                  show wpList _ _ _ _ _ _
                  refine wpList_load_want rfl 32 (.tmp 169) rfl g2 3 rfl UQ _ (by rw [← HUP.out.2.1]; exact HUP.out.2.2.2) Try.underlying32 rfl (by rw [← HUP.out.2.1]; exact info32 _ HL3.out.2) ?_
                  simp only [Act.put, List.setIfInBounds_toArray, List.set_cons_zero, List.set_cons_succ]
                  go_wp2
                  go_roundw
                  case rel => exact ⟨k' + 1, by simp, HKJ.out, HV6.out.1, HV6.out.2.1, HV6.out.2.2.1⟩
                  case measure =>
                    have := HKJ.out
                    simp only [intOf]
                    omega
                · have hbq : (p.channel.toList == q.channel.toList) = false := by rw [eq_iff]; simp [hch]
                  clear a3 d3 hch
                  go_wp2
                  go_roundw
                  case rel => exact ⟨k' + 1, by simp, HKJ.out, HV6.out.1, HV6.out.2.1, HV6.out.2.2.1⟩
                  case measure =>
                    have := HKJ.out
                    simp only [intOf]
                    omega
      · have q2 : i < n := by omega
        have q1 : (i : Int) < (n : Int) := by omega
        obtain ⟨ab, off, ha, hbl, hc⟩ := HL.out.2.2.2 (by omega)
        subst ha
        obtain ⟨x, hx⟩ : ∃ x, l[i]? = some x := ⟨_, List.getElem?_eq_getElem (by rw [HL.out.1]; exact q2)⟩
        have hok := HL.out.2.2.1 x (List.mem_of_getElem? hx)
        have hr : wr.rangeAt ab (off + i * 37) x.cells := rangeAt_same (hc i x hx) (HI.out.bel.block ab hbl)
        obtain ⟨cx, hcx⟩ : ∃ cx, x.cells = cx := ⟨_, rfl⟩
        have HCX : Hid (wr.rangeAt ab (off + i * 37) cx ∧ cx.length = 37 ∧ (∀ v ∈ cx, v.oneCell' = true) ∧ x.cells = cx) := by rw [← hcx]; exact ⟨hr, ActV.length hok.2.2.2.2, ActV.one x, rfl⟩
        have HOK : Hid x.ok := hok
        have HQ : Hid (i < n) := q2
        have HI9 : Hid (i + 1 ≤ 1000) := by show _ ≤ _; have := HN.out; omega
        have qk : (k : Int) ≤ 1000 := by have := HI.out.brd.nprops; have := HI.out.brd.few; omega
        clear hi hc hx hbl hr hok hcx hMk hin
        go_wp2_with (with_reducible change wpList _ _ _ ({ dst := some 32, op := _, type := _, pos := _, after := _, guard := _ } :: _) _ _; refine Hid.out ?_)
        show wpList _ _ _ _ _ _
        refine wpList_load_want rfl 34 (.tmp 31) rfl ab (off + i * 37) rfl cx _ HCX.out.1 Try.underlying34 rfl (by rw [HCX.out.2.1]; exact size34) ?_
        simp only [Act.put, List.setIfInBounds_toArray, List.set_cons_zero, List.set_cons_succ]
        go_wp2_with (with_reducible change wpList _ _ _ ({ dst := none, op := Op.store _ _ _, type := _, pos := _, after := _, guard := _ } :: _) _ _; refine Hid.out ?_)
        show wpList _ _ _ _ _ _
        refine wpList_store_blk rfl 34 (.tmp 7) (.tmp 32) rfl wr.heap.size 0 34 Z cx rfl rfl (by simpa using Blk.new wr Z.toArray 34) (by rw [HZ.out, HCX.out.2.1]; omega) (by rw [HCX.out.2.1]; exact size34) HCX.out.2.2.1 ?_
        intro V1 hb5 hg5
        obtain ⟨g, hg⟩ : ∃ g, wr.heap.size = g := ⟨_, rfl⟩
        rw [hg] at hb5 hg5 ⊢
        have hV1 : Below wr.heap.size wr V1 := (below_al wr _).grown hg5.out (below_al wr _).size (fun j hj => by cases hj; exact Nat.le_of_eq hg)
        have hbk : Blk V1 g 34 x.cells := by
          have := hb5.out
          rw [List.take_zero, List.nil_append, List.drop_of_length_le (by rw [HZ.out, HCX.out.2.1]; omega), List.append_nil] at this
          rw [HCX.out.2.2.2]
          exact this
        have HV1 : Hid (OInv w V1 b M i cl u4 ∧ Blk V1 g 34 x.cells ∧ g ∉ M.bl b) := ⟨HI.out.below hV1, hbk, fun hm => by have := HI.out.brd.lt g hm; omega⟩
        have HGU : Hid (∀ c, u4.ownBlock = some c → g = c → False) := fun c hc e => by have := (HI.out.row.lt c hc).2; omega
        have HOP := open_is HV1.out.1.brd
        clear hb5 hg5 hg hV1 hbk
        go_wp2_with fail
        refine HOP.mono ?_
        rintro e V2 ⟨v8, rfl, hv8, hb2⟩
        have HV2 : Hid (OInv w V2 b M i cl u4 ∧ Blk V2 g 34 x.cells ∧ V2.ownsRow V1.heap.size 3 1 v8 M.opn.length (opnC M.opn)) := ⟨HV1.out.1.below hb2, HV1.out.2.1.below hb2 HV1.out.2.1.lt, hv8⟩
        have HV12 : Hid (V1.heap.size ≤ V2.heap.size) := hb2.size
        have HNE8 : Hid (∀ q, v8.ownBlock = some q → u4.ownBlock = some q → False) := fun q h1 h2 => by
          have := (HV2.out.2.2.lt q h1).1
          have := (HV1.out.1.row.lt q h2).2
          omega
        obtain ⟨_, c1, _, _, _, _⟩ := ActV.cell (o := 0) HOK.out.2.2.2.2 HV2.out.2.1.range0
        rw [Nat.zero_add] at c1
        have HPR := proposal_is HV2.out.1.brd x.id
        clear HOP hv8 hb2
        go_wp2_with fail
        refine HPR.mono ?_
        rintro e V3 ⟨pp, is, rfl, htold, hb3⟩
        have HIS : Hid (is = (M.at? x.id).isSome ∧ pp.cells.length = 39) := told_is htold
        obtain ⟨cpp, hcpp⟩ : ∃ c, pp.cells = c := ⟨_, rfl⟩
        have HCP : Hid (cpp.length = 39 ∧ ∀ v ∈ cpp, v.oneCell' = true) := by rw [← hcpp]; exact ⟨HIS.out.2, Pp.one _⟩
        rw [hcpp]
        have HV3 : Hid (Below V2.heap.size V2 V3) := hb3
        clear HPR htold hb3 hcpp c1
        go_wp2_with (with_reducible change wpList _ _ _ ({ dst := none, op := Op.store _ _ _, type := _, pos := _, after := _, guard := _ } :: _) _ _; refine Hid.out ?_)
        show wpList _ _ _ _ _ _
        refine wpList_store_blk rfl 43 (.tmp 9) (.tmp 40) rfl V3.heap.size 0 43 Z43 cpp rfl rfl (by simpa using Blk.new V3 Z43.toArray 43) (by rw [HZ43.out, HCP.out.1]; omega) (by rw [HCP.out.1]; exact size43) HCP.out.2 ?_
        intro V4 hb5 hg5
        have hV4 : Below V2.heap.size V2 V4 := by
          have h0 : Below V3.heap.size V3 V4 := (below_al V3 _).grown hg5.out (below_al V3 _).size (fun j hj => by cases hj; exact Nat.le_refl _)
          exact below_tr HV3.out h0
        obtain ⟨g43, hg43⟩ : ∃ g, V3.heap.size = g := ⟨_, rfl⟩
        rw [hg43]
        have HV4 : Hid (OInv w V4 b M i cl u4 ∧ Blk V4 g 34 x.cells ∧ V4.ownsRow V1.heap.size 3 1 v8 M.opn.length (opnC M.opn) ∧ (∀ q, v8.ownBlock = some q → q ∉ M.bl b)) := by
          refine ⟨HV2.out.1.below hV4, HV2.out.2.1.below hV4 HV2.out.2.1.lt, ownsRow_below HV2.out.2.2 hV4, fun q hq hm => ?_⟩
          have h1 := (HV2.out.2.2.lt q hq).1
          have h2 := HV1.out.1.brd.lt q hm
          omega
        have HV14 : Hid (V1.heap.size ≤ V4.heap.size) := Nat.le_trans HV12.out hV4.size
        clear hb5 hg5 hV4 hg43 HV3 HV2
        obtain ⟨c0, c1, c2, c3, c4, c36⟩ := ActV.cell (o := 0) HOK.out.2.2.2.2 HV4.out.2.1.range0
        rw [Nat.zero_add] at c1 c2 c3 c4 c36
        have HC4 : Hid (V4.rangeAt g 4 (U x.patch)) := c4
        clear c4
        by_cases k0 : x.kind = 0
        · have kk0 : (x.kind == 0) = true := by simp [k0]
          obtain ⟨UP, hUP⟩ : ∃ L, U x.patch = L := ⟨_, rfl⟩
          have HUP : Hid (U x.patch = UP) := hUP
          have HCALL := propose_is HV4.out.1.brd HI9.out x.user x.text x.patch HOK.out.2.2.2.2
          rw [hUP] at HCALL
          clear hUP
          go_wp2_with (with_reducible change wpList _ _ _ ({ dst := some 53, op := _, type := _, pos := _, after := _, guard := _ } :: _) _ _; refine Hid.out ?_)
          show wpList _ _ _ _ _ _
          refine wpList_load_want rfl 32 (.tmp 52) rfl g 4 rfl UP _ (by rw [← HUP.out]; exact HC4.out) Try.underlying32 rfl (by rw [← HUP.out]; exact info32 _ HOK.out.2.2.2.2) ?_
          simp only [Act.put, List.setIfInBounds_toArray, List.set_cons_zero, List.set_cons_succ]
          go_wp2_with fail
          refine HCALL.mono ?_
          rintro e V5 ⟨M', hB5, hA5, hcase⟩
          rcases hcase with ⟨_, rfl, rfl⟩ | ⟨_, _, rfl, rfl⟩ | ⟨hany, h64, ⟨v7, v9, mb, hM'⟩, rfl⟩
          · have HO : Hid (OInv w V5 b M' (i + 1) cl u4) := HV4.out.1.call hB5 hA5 HV4.out.1.rel
            have HW8 : Hid (V5.ownsRow V1.heap.size 3 1 v8 M'.opn.length (opnC M'.opn)) := own_same HV4.out.2.2.1 (fun q hq => (hA5.other (HV4.out.2.2.1.lt q hq).2 (HV4.out.2.2.2 q hq)).1)
            have cl1 : True := trivial
            have HKE : True := trivial
            clear HCALL hB5 hA5 c0 c1 c2 c3 c36
            have HOP := open_is HO.out.brd
            clear cl1 HKE
            go_wp2_with fail
            refine HOP.mono ?_
            rintro e X1 ⟨va, rfl, ha1, hb1⟩
            obtain ⟨aa, ac, rfl, haa, hna⟩ := nums_own ha1
            obtain ⟨ba, bc, hvb, hba, hnb⟩ := nums_own (ownsRow_below HW8.out hb1)
            have HIN := ints_same _ aa ba _ ac bc X1 hna hnb (by have := HO.out.brd.nopn; omega)
            have HX1 : Hid (OInv w X1 b _ (i + 1) _ _) := HO.out.below hb1
            have HQL : Hid (0 ≤ 0) := Nat.le_refl _
            rw [hvb]
            clear HOP ha1 hb1 haa hna hvb hba hnb
            obtain ⟨nn, hnn⟩ : ∃ nn, (M').opn.length = nn := ⟨_, rfl⟩
            rw [hnn] at HIN
            try rw [hnn]
            clear hnn
            go_wp2_with fail
            refine HIN.mono ?_
            rintro e X2 ⟨rfl, hb2⟩
            have HX2 : Hid (OInv w X2 b _ (i + 1) _ _) := HX1.out.below hb2
            clear HIN hb2 HX1 HO HW8
            go_wp2
            go_roundw
            case rel => exact ⟨i + 1, k, M', cl, by simp, by simp, HQ.out, HMK.out, HX2⟩
            case measure =>
              have := HQ.out
              simp only [intOf]
              omega
          · have HO : Hid (OInv w V5 b M' (i + 1) cl u4) := HV4.out.1.call hB5 hA5 HV4.out.1.rel
            have HW8 : Hid (V5.ownsRow V1.heap.size 3 1 v8 M'.opn.length (opnC M'.opn)) := own_same HV4.out.2.2.1 (fun q hq => (hA5.other (HV4.out.2.2.1.lt q hq).2 (HV4.out.2.2.2 q hq)).1)
            have cl1 : True := trivial
            have HKE : True := trivial
            clear HCALL hB5 hA5 c0 c1 c2 c3 c36
            have HOP := open_is HO.out.brd
            clear cl1 HKE
            go_wp2_with fail
            refine HOP.mono ?_
            rintro e X1 ⟨va, rfl, ha1, hb1⟩
            obtain ⟨aa, ac, rfl, haa, hna⟩ := nums_own ha1
            obtain ⟨ba, bc, hvb, hba, hnb⟩ := nums_own (ownsRow_below HW8.out hb1)
            have HIN := ints_same _ aa ba _ ac bc X1 hna hnb (by have := HO.out.brd.nopn; omega)
            have HX1 : Hid (OInv w X1 b _ (i + 1) _ _) := HO.out.below hb1
            have HQL : Hid (0 ≤ 0) := Nat.le_refl _
            rw [hvb]
            clear HOP ha1 hb1 haa hna hvb hba hnb
            obtain ⟨nn, hnn⟩ : ∃ nn, (M').opn.length = nn := ⟨_, rfl⟩
            rw [hnn] at HIN
            try rw [hnn]
            clear hnn
            go_wp2_with fail
            refine HIN.mono ?_
            rintro e X2 ⟨rfl, hb2⟩
            have HX2 : Hid (OInv w X2 b _ (i + 1) _ _) := HX1.out.below hb2
            clear HIN hb2 HX1 HO HW8
            go_wp2
            go_roundw
            case rel => exact ⟨i + 1, k, M', cl, by simp, by simp, HQ.out, HMK.out, HX2⟩
            case measure =>
              have := HQ.out
              simp only [intOf]
              omega
          · have HM' : Hid (M' = M.with v7 v9 (Pr.new x.user x.text x.patch mb)) := hM'
            have HO : Hid (OInv w V5 b M' (i + 1) cl u4) := HV4.out.1.call hB5 hA5 (by rw [hM']; exact HV4.out.1.rel.with hany v7 v9 mb)
            have HW5 : Hid (V5.ownsRow V1.heap.size 3 1 v8 M.opn.length (opnC M.opn)) := own_same HV4.out.2.2.1 (fun q hq => (hA5.other (HV4.out.2.2.1.lt q hq).2 (HV4.out.2.2.2 q hq)).1)
            have HNB : Hid (∀ q, v8.ownBlock = some q → q ∉ M'.bl b) := fun q hq => (hA5.other (HV4.out.2.2.1.lt q hq).2 (HV4.out.2.2.2 q hq)).2.1
            have HU4 : Hid (∀ q, u4.ownBlock = some q → q ≠ q → False) := fun _ _ h => h rfl
            rw [HMK.out]
            have qk1 : ((k + 1 : Nat) : Int) = (k : Int) + 1 := by omega
            rw [qk1]
            have hbs := run_bs38 ((k : Int) + 1)
            obtain ⟨i0, z0, j0, j1, j2, j3, j4⟩ := info3'
            have HI0 : Hid (Try.prog.info? 3 = some i0 ∧ i0.zero = some z0 ∧ i0.size = 1 ∧ i0.bytes ≤ 1000 ∧ z0.cells.size = 1) := ⟨j0, j1, j2, j3, j4⟩
            have H64 : Hid (M.opn.length + 1 ≤ 1000000) := by show _ ≤ _; omega
            have HV15 : Hid (V1.heap.size ≤ V5.heap.size) := by
              show _ ≤ _
              have h1 := HV4.out.1.brd
              have h2 := hA5.2.size
              have h3 := HV14.out
              omega
            clear HCALL hB5 hA5 hany h64 hM' c0 c1 c2 c3 c36 j0 j1 j2 j3 j4
            go_wp2_with (with_reducible change wpList _ _ _ ({ dst := some 67, op := _, type := _, pos := _, after := _, guard := _ } :: _) _ _; refine Hid.out ?_)
            show wpList _ _ _ _ _ _
            refine wpList_append_own1 rfl (.tmp 64) (.tmp 66) 38 rfl _ 3 i0 z0 1 V1.heap.size Try.underlying38 HI0.out.1 HI0.out.2.1 HI0.out.2.2.1 HI0.out.2.2.2.1 HI0.out.2.2.2.2 (by omega) v8 _ _ (ownsRow_below HW5.out (below_al V5 _)) V5.heap.size 1 1 [iv ((k : Int) + 1)] rfl rfl rfl (range_new V5 [iv ((k : Int) + 1)] 3) (by intro u hu; simp at hu; subst hu; rfl) (by have := HV15.out; simp; omega) H64.out ?_
            intro v67 V6 ho6 hg6
            have hK6 : OInv w V6 b M' (i + 1) cl u4 := by
              have h0 := HO.out.below (below_al V5 (.cells #[iv ((k : Int) + 1)] 3))
              refine ⟨h0.brd.same (fun q hq => hg6.out.block q (h0.brd.lt q hq) (fun e => HNB.out q e.symm hq)), h0.bel.grown hg6.out h0.bel.size (fun j hj => Nat.le_trans HV1.out.1.bel.size (HW5.out.lt j hj).1), h0.blo, own_same h0.row (fun q hq => hg6.out.block q (h0.row.lt q hq).2 (fun e => HNE8.out q e.symm hq)), h0.rowb, h0.ncl, h0.rel⟩
            have HO6 : Hid (OInv w V6 b M' (i + 1) cl u4) := hK6
            have HW8 : Hid (V6.ownsRow V1.heap.size 3 1 v67 M'.opn.length (opnC M'.opn)) := by
              have e1 : M'.opn = M.opn ++ [k + 1] := by rw [HM'.out]; show M.opn ++ [M.props.length + 1] = _; rw [HMK.out]
              rw [e1, opnC_app, List.length_append]
              have := ho6.out
              rw [← qk1] at this
              exact this
            have HML : Hid (M'.props.length = k + 1) := by show _ = _; rw [HM'.out]; show (M.props ++ [_]).length = _; rw [List.length_append, HMK.out]; rfl
            clear HO ho6 hg6 hK6
            have HO : Hid (OInv w V6 b M' (i + 1) cl u4) := HO6.out
            have cl1 : True := trivial
            have HKE : True := trivial
            clear HO6
            have HOP := open_is HO.out.brd
            clear cl1 HKE
            go_wp2_with fail
            refine HOP.mono ?_
            rintro e X1 ⟨va, rfl, ha1, hb1⟩
            obtain ⟨aa, ac, rfl, haa, hna⟩ := nums_own ha1
            obtain ⟨ba, bc, hvb, hba, hnb⟩ := nums_own (ownsRow_below HW8.out hb1)
            have HIN := ints_same _ aa ba _ ac bc X1 hna hnb (by have := HO.out.brd.nopn; omega)
            have HX1 : Hid (OInv w X1 b _ (i + 1) _ _) := HO.out.below hb1
            have HQL : Hid (0 ≤ 0) := Nat.le_refl _
            rw [hvb]
            clear HOP ha1 hb1 haa hna hvb hba hnb
            obtain ⟨nn, hnn⟩ : ∃ nn, (M').opn.length = nn := ⟨_, rfl⟩
            rw [hnn] at HIN
            try rw [hnn]
            clear hnn
            go_wp2_with fail
            refine HIN.mono ?_
            rintro e X2 ⟨rfl, hb2⟩
            have HX2 : Hid (OInv w X2 b _ (i + 1) _ _) := HX1.out.below hb2
            clear HIN hb2 HX1 HO HW8
            go_wp2
            go_roundw
            case rel => exact ⟨i + 1, k + 1, M', cl, by simp, by simp, HQ.out, HML.out, HX2⟩
            case measure =>
              have := HQ.out
              simp only [intOf]
              omega
        · by_cases k1 : x.kind = 1
          · have kk0 : (x.kind == 0) = false := by simpa using k0
            have kk1 : (x.kind == 1) = true := by simp [k1]
            have HCALL := vote_is HV4.out.1.brd HI9.out x.id x.user HOK.out.2.2.1 x.yes
            obtain ⟨r, hr⟩ : ∃ r, M.vote x.id x.user x.yes = r := ⟨_, rfl⟩
            rw [hr] at HCALL
            have HR : Hid (M.vote x.id x.user x.yes = r) := hr
            clear hr
            go_wp2_with fail
            refine HCALL.mono ?_
            rintro e V5 ⟨rfl, hB5, hA5⟩
            have hal : Alike M r.1 := by rw [← HR.out]; exact alike_vote M _ _ _
            have HO : Hid (OInv w V5 b r.1 (i + 1) cl u4) := HV4.out.1.call hB5 hA5 (HV4.out.1.rel.alike hal)
            have HW8 : Hid (V5.ownsRow V1.heap.size 3 1 v8 r.1.opn.length (opnC r.1.opn)) := by rw [hal.opn]; exact own_same HV4.out.2.2.1 (fun q hq => (hA5.other (HV4.out.2.2.1.lt q hq).2 (HV4.out.2.2.2 q hq)).1)
            have HML : Hid (r.1.props.length = k) := by show _ = _; rw [hal.len]; exact HMK.out
            have hbk5 : Blk V5 g 34 x.cells := (hA5.other HV4.out.2.1.lt HV1.out.2.2).1.trans HV4.out.2.1
            obtain ⟨_, d1, _, _, _, _⟩ := ActV.cell (o := 0) HOK.out.2.2.2.2 hbk5.range0
            rw [Nat.zero_add] at d1
            clear HCALL hB5 hA5 c0 c1 c2 c3 c36 hal hbk5
            have cl1 : True := trivial
            have HKE : True := trivial
            obtain ⟨ce, hce⟩ : ∃ c, r.2 = c := ⟨_, rfl⟩
            rw [hce]
            by_cases hz0 : ce = 0
            · have hcl : hasN cl x.id = false := by
                obtain ⟨p, h1, h2⟩ := vote_ok (by rw [HR.out, hce]; exact hz0)
                have h3 := HV4.out.1.rel.turn h1
                rw [h2] at h3
                cases hh : hasN cl x.id
                · rfl
                · rw [hh] at h3; cases h3
              subst hz0
              obtain ⟨ca, cc, hvc, hcn, hcc⟩ := nums_own HO.out.row
              have HHO := holds_is x.id cl ca cl.length cc V5 hcc (by have := HO.out.ncl; have := HI9.out; omega)
              rw [hcl] at HHO
              subst hvc
              clear hce hcl hcn hcc
              go_wp2_with fail
              refine HHO.mono ?_
              rintro e X0 ⟨rfl, rfl⟩
              clear HHO d1
              have HOP := open_is HO.out.brd
              clear cl1 HKE
              go_wp2_with fail
              refine HOP.mono ?_
              rintro e X1 ⟨va, rfl, ha1, hb1⟩
              obtain ⟨aa, ac, rfl, haa, hna⟩ := nums_own ha1
              obtain ⟨ba, bc, hvb, hba, hnb⟩ := nums_own (ownsRow_below HW8.out hb1)
              have HIN := ints_same _ aa ba _ ac bc X1 hna hnb (by have := HO.out.brd.nopn; omega)
              have HX1 : Hid (OInv w X1 b _ (i + 1) _ _) := HO.out.below hb1
              have HQL : Hid (0 ≤ 0) := Nat.le_refl _
              rw [hvb]
              clear HOP ha1 hb1 haa hna hvb hba hnb
              obtain ⟨nn, hnn⟩ : ∃ nn, (r.1).opn.length = nn := ⟨_, rfl⟩
              rw [hnn] at HIN
              try rw [hnn]
              clear hnn
              go_wp2_with fail
              refine HIN.mono ?_
              rintro e X2 ⟨rfl, hb2⟩
              have HX2 : Hid (OInv w X2 b _ (i + 1) _ _) := HX1.out.below hb2
              clear HIN hb2 HX1 HO HW8
              go_wp2
              go_roundw
              case rel => exact ⟨i + 1, k, r.1, cl, by simp, by simp, HQ.out, HML.out, HX2⟩
              case measure =>
                have := HQ.out
                simp only [intOf]
                omega
            · have hze : (ce == 0) = false := by simpa using hz0
              clear hce hz0
              have HOP := open_is HO.out.brd
              clear cl1 HKE
              go_wp2_with fail
              refine HOP.mono ?_
              rintro e X1 ⟨va, rfl, ha1, hb1⟩
              obtain ⟨aa, ac, rfl, haa, hna⟩ := nums_own ha1
              obtain ⟨ba, bc, hvb, hba, hnb⟩ := nums_own (ownsRow_below HW8.out hb1)
              have HIN := ints_same _ aa ba _ ac bc X1 hna hnb (by have := HO.out.brd.nopn; omega)
              have HX1 : Hid (OInv w X1 b _ (i + 1) _ _) := HO.out.below hb1
              have HQL : Hid (0 ≤ 0) := Nat.le_refl _
              rw [hvb]
              clear HOP ha1 hb1 haa hna hvb hba hnb
              obtain ⟨nn, hnn⟩ : ∃ nn, (r.1).opn.length = nn := ⟨_, rfl⟩
              rw [hnn] at HIN
              try rw [hnn]
              clear hnn
              go_wp2_with fail
              refine HIN.mono ?_
              rintro e X2 ⟨rfl, hb2⟩
              have HX2 : Hid (OInv w X2 b _ (i + 1) _ _) := HX1.out.below hb2
              clear HIN hb2 HX1 HO HW8
              go_wp2
              go_roundw
              case rel => exact ⟨i + 1, k, r.1, cl, by simp, by simp, HQ.out, HML.out, HX2⟩
              case measure =>
                have := HQ.out
                simp only [intOf]
                omega
          · by_cases k4 : x.kind = 4
            · have kk0 : (x.kind == 0) = false := by simpa using k0
              have kk1 : (x.kind == 1) = false := by simpa using k1
              have kk4 : (x.kind == 4) = true := by simp [k4]
              have HCALL := close_is HV4.out.1.brd HI9.out x.id
              go_wp2_with fail
              refine HCALL.mono ?_
              rintro e V5 ⟨M', hB5, hA5, hcase⟩
              have hbk5 : Blk V5 g 34 x.cells := (hA5.other HV4.out.2.1.lt HV1.out.2.2).1.trans HV4.out.2.1
              have HBK : Hid (Blk V5 g 34 x.cells ∧ g ∉ M'.bl b) := ⟨hbk5, (hA5.other HV4.out.2.1.lt HV1.out.2.2).2.1⟩
              obtain ⟨_, d1, _, _, _, _⟩ := ActV.cell (o := 0) HOK.out.2.2.2.2 hbk5.range0
              rw [Nat.zero_add] at d1
              have HW5 : Hid (V5.ownsRow V1.heap.size 3 1 v8 M.opn.length (opnC M.opn)) := own_same HV4.out.2.2.1 (fun q hq => (hA5.other (HV4.out.2.2.1.lt q hq).2 (HV4.out.2.2.2 q hq)).1)
              have HR5 : Hid (V5.ownsRow w.heap.size 3 1 u4 cl.length (opnC cl) ∧ ∀ q, u4.ownBlock = some q → q ∉ M'.bl b) := ⟨own_same HV4.out.1.row (fun q hq => (hA5.other (HV4.out.1.row.lt q hq).2 (HV4.out.1.rowb q hq)).1), fun q hq => (hA5.other (HV4.out.1.row.lt q hq).2 (HV4.out.1.rowb q hq)).2.1⟩
              obtain ⟨ca, cc, hvc, hcn, hcc⟩ := nums_own HR5.out.1
              have HHO := holds_is x.id cl ca cl.length cc V5 hcc (by have := HV4.out.1.ncl; have := HI9.out; omega)
              rcases hcase with ⟨hat, rfl, rfl⟩ | ⟨⟨p, hat⟩, hop, rfl, rfl⟩ | ⟨⟨p, hat⟩, hop, ⟨ov, hM'⟩, rfl⟩
              · have his : is = false := by rw [HIS.out.1, hat]; rfl
                have HO : Hid (OInv w V5 b M' (i + 1) cl u4) := HV4.out.1.call hB5 hA5 HV4.out.1.rel
                have HW8 : Hid (V5.ownsRow V1.heap.size 3 1 v8 M'.opn.length (opnC M'.opn)) := HW5.out
                have cl1 : True := trivial
                have HKE : True := trivial
                subst his
                clear HCALL hB5 hA5 c0 c1 c2 c3 c36 hat hbk5 HHO hvc hcn hcc
                have HOP := open_is HO.out.brd
                clear cl1 HKE
                go_wp2_with fail
                refine HOP.mono ?_
                rintro e X1 ⟨va, rfl, ha1, hb1⟩
                obtain ⟨aa, ac, rfl, haa, hna⟩ := nums_own ha1
                obtain ⟨ba, bc, hvb, hba, hnb⟩ := nums_own (ownsRow_below HW8.out hb1)
                have HIN := ints_same _ aa ba _ ac bc X1 hna hnb (by have := HO.out.brd.nopn; omega)
                have HX1 : Hid (OInv w X1 b _ (i + 1) _ _) := HO.out.below hb1
                have HQL : Hid (0 ≤ 0) := Nat.le_refl _
                rw [hvb]
                clear HOP ha1 hb1 haa hna hvb hba hnb
                obtain ⟨nn, hnn⟩ : ∃ nn, (M').opn.length = nn := ⟨_, rfl⟩
                rw [hnn] at HIN
                try rw [hnn]
                clear hnn
                go_wp2_with fail
                refine HIN.mono ?_
                rintro e X2 ⟨rfl, hb2⟩
                have HX2 : Hid (OInv w X2 b _ (i + 1) _ _) := HX1.out.below hb2
                clear HIN hb2 HX1 HO HW8
                go_wp2
                go_roundw
                case rel => exact ⟨i + 1, k, M', cl, by simp, by simp, HQ.out, HMK.out, HX2⟩
                case measure =>
                  have := HQ.out
                  simp only [intOf]
                  omega
              · have his : is = true := by rw [HIS.out.1, hat]; rfl
                have hcl : hasN cl x.id = true := by
                  have h3 := HV4.out.1.rel.turn hat
                  rw [hop] at h3
                  cases hh : hasN cl x.id
                  · rw [hh] at h3; cases h3
                  · rfl
                rw [hcl] at HHO
                have HO : Hid (OInv w V5 b M' (i + 1) cl u4) := HV4.out.1.call hB5 hA5 HV4.out.1.rel
                have HW8 : Hid (V5.ownsRow V1.heap.size 3 1 v8 M'.opn.length (opnC M'.opn)) := HW5.out
                have cl1 : True := trivial
                have HKE : True := trivial
                subst his
                subst hvc
                clear HCALL hB5 hA5 c0 c1 c2 c3 c36 hat hbk5 hcn hcc hop hcl
                go_wp2_with fail
                refine HHO.mono ?_
                rintro e X0 ⟨rfl, rfl⟩
                clear HHO d1
                have HOP := open_is HO.out.brd
                clear cl1 HKE
                go_wp2_with fail
                refine HOP.mono ?_
                rintro e X1 ⟨va, rfl, ha1, hb1⟩
                obtain ⟨aa, ac, rfl, haa, hna⟩ := nums_own ha1
                obtain ⟨ba, bc, hvb, hba, hnb⟩ := nums_own (ownsRow_below HW8.out hb1)
                have HIN := ints_same _ aa ba _ ac bc X1 hna hnb (by have := HO.out.brd.nopn; omega)
                have HX1 : Hid (OInv w X1 b _ (i + 1) _ _) := HO.out.below hb1
                have HQL : Hid (0 ≤ 0) := Nat.le_refl _
                rw [hvb]
                clear HOP ha1 hb1 haa hna hvb hba hnb
                obtain ⟨nn, hnn⟩ : ∃ nn, (M').opn.length = nn := ⟨_, rfl⟩
                rw [hnn] at HIN
                try rw [hnn]
                clear hnn
                go_wp2_with fail
                refine HIN.mono ?_
                rintro e X2 ⟨rfl, hb2⟩
                have HX2 : Hid (OInv w X2 b _ (i + 1) _ _) := HX1.out.below hb2
                clear HIN hb2 HX1 HO HW8
                go_wp2
                go_roundw
                case rel => exact ⟨i + 1, k, M', cl, by simp, by simp, HQ.out, HMK.out, HX2⟩
                case measure =>
                  have := HQ.out
                  simp only [intOf]
                  omega
              · have his : is = true := by rw [HIS.out.1, hat]; rfl
                have hcl : hasN cl x.id = false := by
                  have h3 := HV4.out.1.rel.turn hat
                  rw [hop] at h3
                  cases hh : hasN cl x.id
                  · rfl
                  · rw [hh] at h3; cases h3
                rw [hcl] at HHO
                obtain ⟨kx, hkx, _, _, _⟩ := at_range hat
                have hkm : kx ∈ M.opn := hasN_nat.1 (by rw [← hkx]; exact hop)
                have HB5 : Hid (BAt V5 b M' (i + 1) ∧ Below w.heap.size w V5 ∧ (∀ j ∈ M'.bl b, w.heap.size ≤ j) ∧ OkO M' (cl ++ [kx]) ∧ M'.opn = outN M.opn x.id ∧ M'.props.length = k) := by
                  have h1 := hA5.below HV4.out.1.bel.size HV4.out.1.blo
                  refine ⟨hB5, HV4.out.1.bel.trans h1.1, h1.2, ?_, by rw [hM']; rfl, by rw [hM']; exact HMK.out⟩
                  rw [hM', hkx]
                  exact HV4.out.1.rel.shut hkm ov
                have HKX : Hid (x.id = (kx : Int)) := hkx
                have HV15 : Hid (V1.heap.size ≤ V5.heap.size) := by
                  show _ ≤ _
                  have h2 := hA5.2.size
                  have h3 := HV14.out
                  omega
                subst his
                subst hvc
                have HNC : Hid (cl.length + 1 ≤ 1000000 ∧ cl.length + 1 ≤ i + 1) := ⟨by have := HV4.out.1.ncl; have := HI9.out; omega, by have := HV4.out.1.ncl; omega⟩
                clear HCALL hB5 hA5 c0 c1 c2 c3 c36 hat hbk5 hcn hcc hop hcl hkx hkm hM'
                go_wp2_with fail
                refine HHO.mono ?_
                rintro e X0 ⟨rfl, rfl⟩
                clear HHO
                have hbs := run_bs38 x.id
                obtain ⟨i0, z0, j0, j1, j2, j3, j4⟩ := info3'
                have HI0 : Hid (Try.prog.info? 3 = some i0 ∧ i0.zero = some z0 ∧ i0.size = 1 ∧ i0.bytes ≤ 1000 ∧ z0.cells.size = 1) := ⟨j0, j1, j2, j3, j4⟩
                clear j0 j1 j2 j3 j4
                go_wp2_with (with_reducible change wpList _ _ _ ({ dst := some 109, op := _, type := _, pos := _, after := _, guard := _ } :: _) _ _; refine Hid.out ?_)
                show wpList _ _ _ _ _ _
                refine wpList_append_ownAt rfl (.tmp 105) (.tmp 108) 38 rfl _ 3 i0 z0 1 w.heap.size Try.underlying38 HI0.out.1 HI0.out.2.1 HI0.out.2.2.1 HI0.out.2.2.2.1 HI0.out.2.2.2.2 (by omega) _ _ _ (ownsRow_below HR5.out.1 (below_al V5 _)) V5.heap.size 1 1 [iv x.id] rfl rfl rfl (range_new V5 [iv x.id] 3) (by intro u hu; simp at hu; subst hu; rfl) (by have := HB5.out.2.1.size; simp; omega) HNC.out.1 ?_
                intro v109 V6 ho6 hg6 hpl
                have HPL : Hid (v109.ownBlock = (Value.slice ca cl.length cc).ownBlock ∨ v109.ownBlock = some (V5.heap.size + 1)) := by show _ ∨ _; have h := hpl.out; simpa using h
                clear hpl
                have h0 : Below V5.heap.size V5 (V5.alloc (.cells #[iv x.id] 3)) := below_al _ _
                have HV6 : Hid (OInv w V6 b M' (i + 1) (cl ++ [kx]) v109 ∧ V6.ownsRow V1.heap.size 3 1 v8 M.opn.length (opnC M.opn) ∧ Blk V6 g 34 x.cells) := by
                  have hB6 := HB5.out.1.below h0
                  have hs : ∀ q, q < V5.heap.size → (∀ c, (Value.slice ca cl.length cc).ownBlock = some c → q ≠ c) → V6.heap[q]? = V5.heap[q]? := fun q hq hne => (hg6.out.block q (by simp; omega) (fun e => hne q e.symm rfl)).trans (h0.block q hq)
                  refine ⟨⟨?_, ?_, HB5.out.2.2.1, ?_, ?_, ?_, HB5.out.2.2.2.1⟩, ?_, ?_⟩
                  · exact HB5.out.1.same (fun q hq => hs q (HB5.out.1.lt q hq) (fun c hc e => HR5.out.2 c hc (e ▸ hq)))
                  · exact (below_tr HB5.out.2.1 h0).grown hg6.out (below_tr HB5.out.2.1 h0).size (fun j hj => (HR5.out.1.lt j hj).1)
                  · rw [opnC_app, List.length_append]
                    have := ho6.out
                    rw [HKX.out] at this
                    exact this
                  · intro q hq hm
                    have h3 := HB5.out.1.lt q hm
                    rcases HPL.out with h4 | h4
                    · exact HR5.out.2 q (h4.symm.trans hq) hm
                    · rw [h4] at hq; cases hq; omega
                  · rw [List.length_append]; exact HNC.out.2
                  · exact own_same HW5.out (fun q hq => hs q (HW5.out.lt q hq).2 (fun c hc e => HNE8.out q hq (by rw [e]; exact hc)))
                  · exact (hs g HBK.out.1.lt (fun c hc e => HGU.out c hc e)).trans HBK.out.1
                obtain ⟨_, d6, _, _, _, _⟩ := ActV.cell (o := 0) HOK.out.2.2.2.2 HV6.out.2.2.range0
                rw [Nat.zero_add] at d6
                obtain ⟨ba, bc, hvb, hba, hnb⟩ := nums_own HV6.out.2.1
                have HWO := without_is x.id M.opn ba M.opn.length bc V6 hnb (by have := HI.out.brd.nopn; omega)
                subst hvb
                clear ho6 hg6 h0 d1 hba hnb
                obtain ⟨n8, hn8⟩ : ∃ n, M.opn.length = n := ⟨_, rfl⟩
                rw [hn8] at HWO
                rw [hn8]
                clear hn8
                go_wp2_with fail
                refine HWO.mono ?_
                rintro e V7 ⟨v113, rfl, ho7, hb7⟩
                have HO : Hid (OInv w V7 b M' (i + 1) (cl ++ [kx]) v109) := HV6.out.1.below hb7
                have HW8 : Hid (V7.ownsRow V6.heap.size 3 1 v113 M'.opn.length (opnC M'.opn)) := by rw [HB5.out.2.2.2.2.1]; exact ho7
                have cl1 : True := trivial
                have HKE : True := trivial
                have HML : Hid (M'.props.length = k) := HB5.out.2.2.2.2.2
                clear HWO ho7 hb7 d6
                have HOP := open_is HO.out.brd
                clear cl1 HKE
                go_wp2_with fail
                refine HOP.mono ?_
                rintro e X1 ⟨va, rfl, ha1, hb1⟩
                obtain ⟨aa, ac, rfl, haa, hna⟩ := nums_own ha1
                obtain ⟨ba, bc, hvb, hba, hnb⟩ := nums_own (ownsRow_below HW8.out hb1)
                have HIN := ints_same _ aa ba _ ac bc X1 hna hnb (by have := HO.out.brd.nopn; omega)
                have HX1 : Hid (OInv w X1 b _ (i + 1) _ _) := HO.out.below hb1
                have HQL : Hid (0 ≤ 0) := Nat.le_refl _
                rw [hvb]
                clear HOP ha1 hb1 haa hna hvb hba hnb
                obtain ⟨nn, hnn⟩ : ∃ nn, (M').opn.length = nn := ⟨_, rfl⟩
                rw [hnn] at HIN
                try rw [hnn]
                clear hnn
                go_wp2_with fail
                refine HIN.mono ?_
                rintro e X2 ⟨rfl, hb2⟩
                have HX2 : Hid (OInv w X2 b _ (i + 1) _ _) := HX1.out.below hb2
                clear HIN hb2 HX1 HO HW8
                go_wp2
                go_roundw
                case rel => exact ⟨i + 1, k, M', cl ++ [kx], by simp, by simp, HQ.out, HML.out, HX2⟩
                case measure =>
                  have := HQ.out
                  simp only [intOf]
                  omega
            · have kk0 : (x.kind == 0) = false := by simpa using k0
              have kk1 : (x.kind == 1) = false := by simpa using k1
              have kk4 : (x.kind == 4) = false := by simpa using k4
              have HO : Hid (OInv w V4 b M (i + 1) cl u4) := HV4.out.1.more HI9.out
              have HW8 : Hid (V4.ownsRow V1.heap.size 3 1 v8 M.opn.length (opnC M.opn)) := HV4.out.2.2.1
              have cl1 : True := trivial
              have HKE : True := trivial
              clear c1 c2 c3 c36
              have HOP := open_is HO.out.brd
              clear cl1 HKE
              go_wp2_with fail
              refine HOP.mono ?_
              rintro e X1 ⟨va, rfl, ha1, hb1⟩
              obtain ⟨aa, ac, rfl, haa, hna⟩ := nums_own ha1
              obtain ⟨ba, bc, hvb, hba, hnb⟩ := nums_own (ownsRow_below HW8.out hb1)
              have HIN := ints_same _ aa ba _ ac bc X1 hna hnb (by have := HO.out.brd.nopn; omega)
              have HX1 : Hid (OInv w X1 b _ (i + 1) _ _) := HO.out.below hb1
              have HQL : Hid (0 ≤ 0) := Nat.le_refl _
              rw [hvb]
              clear HOP ha1 hb1 haa hna hvb hba hnb
              obtain ⟨nn, hnn⟩ : ∃ nn, (M).opn.length = nn := ⟨_, rfl⟩
              rw [hnn] at HIN
              try rw [hnn]
              clear hnn
              go_wp2_with fail
              refine HIN.mono ?_
              rintro e X2 ⟨rfl, hb2⟩
              have HX2 : Hid (OInv w X2 b _ (i + 1) _ _) := HX1.out.below hb2
              clear HIN hb2 HX1 HO HW8
              go_wp2
              go_roundw
              case rel => exact ⟨i + 1, k, M, cl, by simp, by simp, HQ.out, HMK.out, HX2⟩
              case measure =>
                have := HQ.out
                simp only [intOf]
                omega
#print axioms open_law
end Go.Proofs.Ytaecigpjcbjcbaa.Oct
