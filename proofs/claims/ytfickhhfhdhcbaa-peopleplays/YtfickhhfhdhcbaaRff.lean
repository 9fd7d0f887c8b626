/-
  Layer 15 (people): the document's people: AddUser.
-/
import Derived.Test.YtfickhhfhdhcbaaRfe
namespace Go.Proofs.Ytfickhhfhdhcbaa.Oct
open Go.RowKit
set_option linter.unusedSimpArgs false
set_option linter.unusedVariables false

/-- the calls of the document's people -/
def rAddU (R : Rp) (u : Hs) : Rp × Int := if isName u = false then (R, 150) else if u ∈ R.U then (R, 110) else if 64 ≤ R.U.length then (R, 3) else ({ R with U := withL u R.U }, 0)
def rAddO (R : Rp) (x u : Hs) : Rp × Int := if isName x = false then (R, 150) else if x ∈ R.O then (R, 110) else if u ∉ R.U then (R, 111) else if 8 ≤ R.O.length then (R, 3) else ({ R with O := withL x R.O, F := R.F ++ [⟨x, [], u, 2⟩] }, 0)
def joF (F : List Fc) (x u : Hs) : List Fc := if fct F x [] u < 0 then F else F.eraseIdx (fct F x [] u).toNat
def rJoin (R : Rp) (x u : Hs) (r : Int) : Rp × Int := if x ∉ R.O then (R, 111) else if u ∉ R.U then (R, 111) else if r ≠ 1 ∧ r ≠ 2 then (R, 2) else if lastF R.F x u = true ∧ r = 1 then (R, 151) else ({ R with F := joF R.F x u ++ [⟨x, [], u, r⟩] }, 0)
def rLeave (R : Rp) (x u : Hs) : Rp × Int := if roleF R.F x u = 0 then (R, 111) else if lastF R.F x u = true then (R, 151) else ({ R with F := R.F.filter (fun f => f.o != x || f.u != u) }, 0)
def rTeam (R : Rp) (x t : Hs) : Rp × Int := if x ∉ R.O then (R, 111) else if isName t = false then (R, 150) else if t ∈ teaF R.F x then (R, 110) else if 8 ≤ (teaF R.F x).length then (R, 3) else ({ R with F := R.F ++ [⟨x, t, [], 0⟩] }, 0)
def rPut (R : Rp) (x t u : Hs) : Rp × Int := if t ∉ teaF R.F x then (R, 111) else if roleF R.F x u = 0 then (R, 111) else if 0 ≤ fct R.F x t u then (R, 110) else ({ R with F := R.F ++ [⟨x, t, u, 0⟩] }, 0)
def rOut (R : Rp) (x t u : Hs) : Rp × Int := if t = [] then (R, 111) else if u = [] then (R, 111) else if fct R.F x t u < 0 then (R, 111) else ({ R with F := R.F.eraseIdx (fct R.F x t u).toNat }, 0)
/-- one value stored -/
theorem wpList_st1 {ops : Array Oper} {rest : List Oper} {o : Oper} {a : Act} {w : World} {Q : Exit → Act → World → Prop} (hg : o.guard = none) (t : TypeId) (x y : Operand) (hop : o.op = .store t x y) (b k : Nat) (v : Value) (T : TypeId) (L : List Value) (hx : a.eval x = .pointer (some ⟨b, k, none⟩)) (hy : a.eval y = v) (hb : Blk w b T L) (hkl : k < L.length)
    (hi : (Try.prog.info? t).map (·.size) = some 1) (h1 : v.cells = #[v]) (h2 : v.oneCell' = true) (hk : ∀ w', Hid (Blk w' b T (L.set k v)) → Hid (w.grownBy w' (some b)) → wpList Try.prog ops Q rest (a.put o.dst undef) w') : wpList Try.prog ops Q (o :: rest) a w := by
  refine wpList_plain hg fun K hK => ?_
  obtain ⟨i, hi2, hi3⟩ := Option.map_eq_some_iff.1 hi
  obtain ⟨u, hu⟩ : ∃ u, L[k]? = some u := ⟨_, List.getElem?_eq_getElem hkl⟩
  have hc := hb.cell hu
  have hf := hb.free k
  unfold Oper.wp execOp
  simp [hop, hx, hy, Instr.storeAt, Instr.sureAddr, storeVar, sizeOf, typeInfo, hi2, hi3, h1, storeCells, run_store _ _ _ _ _ h2, stored, hc, hf, Addr.add_lit, Result.andThen]
  exact hK _ _ (hk _ (hb.set k v) (grown_setCell _ _ _ _))
theorem size27 : (Try.prog.info? 27).map (·.size) = some 1 := by kernel_rfl
theorem size28 : (Try.prog.info? 28).map (·.size) = some 1 := by kernel_rfl
/-- rows of names and of facts are no box of slices -/
theorem sv_other {V Ve : World} {v : Value} {n sz g : Nat} {cs : List Value} {a : Option Addr} {k c : Nat} {X : List Value} {T : TypeId} (h : SV V v n sz cs) (h0 : ∀ u, cs[0]? = some u → u ≠ .slice a k c) (hb : Blk V g T (.slice a k c :: X)) (hg : V.grownBy Ve (some g)) : SV Ve v n sz cs := by
  obtain ⟨a', c', rfl, h1, h2, h3, h4, h5⟩ := h
  refine ⟨a', c', rfl, h1, h2, h3, h4, ?_⟩
  rcases h5 with h5 | ⟨g', rfl, hl, hc⟩
  · exact .inl h5
  · refine .inr ⟨g', rfl, Nat.lt_of_lt_of_le hl hg.size, fun j u hu => hg.cell (hc j u hu) (fun e => ?_)⟩
    have e' : g' = g := by simpa using e
    subst e'
    have hlen : 0 < cs.length := by have := (List.getElem?_eq_some_iff.1 hu).1; omega
    have h6 : cs[0]? = some cs[0] := List.getElem?_eq_getElem hlen
    have h7 := hc 0 _ h6
    have h8 : V.cell? ⟨g', 0, none⟩ = some (.slice a k c) := hb.cell rfl
    rw [h8] at h7
    injection h7 with h7
    exact h0 _ h6 h7.symm
theorem hv_head {l : List Hs} {a : Option Addr} {k c : Nat} (u : Value) (h : (l.map hv)[0]? = some u) : u ≠ .slice a k c := by
  cases l with
  | nil => simp at h
  | cons x l => simp at h; subst h; unfold hv; exact fun e => by cases e
theorem fc_head {l : List Fc} {a : Option Addr} {k c : Nat} (u : Value) (h : (fcC l)[0]? = some u) : u ≠ .slice a k c := by
  cases l with
  | nil => simp [fcC] at h
  | cons x l => simp [fcC, Fc.cells] at h; subst h; unfold hv; exact fun e => by cases e
theorem rp_other {V Ve : World} {uv ov fv : Value} {R : Rp} {g : Nat} {a : Option Addr} {k c : Nat} {X : List Value} {T : TypeId} (h : RPt V uv ov fv R) (hb : Blk V g T (.slice a k c :: X)) (hg : V.grownBy Ve (some g)) : RPt Ve uv ov fv R := ⟨sv_other h.u hv_head hb hg, sv_other h.o hv_head hb hg, sv_other h.f fc_head hb hg, h.nu, h.no, h.nf⟩
set_option maxRecDepth 100000 in
set_option maxHeartbeats 4000000 in
theorem raddU_is {w : World} {uv ov fv : Value} {R : Rp} (h : RPt w uv ov fv R) (hF : R.F.length ≤ 990) (u : Hs) (hu0 : u.length ≤ 140737488355328) : Calls Try.prog 31 #[.agg #[uv, ov, fv], hv u] w (Ro w (rAddU R u)) := by
  obtain ⟨m, hm⟩ : ∃ m, R.F.length = m := ⟨_, rfl⟩
  obtain ⟨nu, hnu⟩ : ∃ m, R.U.length = m := ⟨_, rfl⟩
  obtain ⟨no, hno⟩ : ∃ m, R.O.length = m := ⟨_, rfl⟩
  obtain ⟨ua, uc, rfl, _⟩ := h.u
  obtain ⟨oa, oc, rfl, _⟩ := h.o
  obtain ⟨a, c, rfl, _⟩ := h.f
  rw [hm, hnu, hno] at h ⊢
  obtain ⟨su, hsu, hlu, hqu⟩ := bs_is u
  have HS : Hid (su.toList = u ∧ hv u = .string su ∧ True) := ⟨hlu, hsu, trivial⟩
  have hz30 := zero30
  obtain ⟨b, hb⟩ : ∃ b, w.heap.size = b := ⟨_, rfl⟩
  obtain ⟨A, hA⟩ : ∃ A, (w.alloc (.cells #[.slice ua nu uc, .slice oa no oc, .slice a m c] 30)).alloc (.cells #[.slice none 0 0, .slice none 0 0, .slice none 0 0] 30) = A := ⟨_, rfl⟩
  have hB : Below w.heap.size w A := by rw [← hA]; exact ((Below.refl _ w).alloc (Nat.le_refl _) _).alloc (by simp) _
  have h2 : Blk A b 30 [.slice ua nu uc, .slice oa no oc, .slice a m c] := by rw [← hA, ← hb]; exact (Blk.new w _ _).alloc _
  have h4 : Blk A (b + 1) 30 [.slice none 0 0, .slice none 0 0, .slice none 0 0] := by
    rw [← hA, ← hb]
    have := Blk.new (w.alloc (.cells #[.slice ua nu uc, .slice oa no oc, .slice a m c] 30)) #[.slice none 0 0, .slice none 0 0, .slice none 0 0] 30
    rwa [World.size_alloc] at this
  have HA0 : Hid (RPt w (.slice ua nu uc) (.slice oa no oc) (.slice a m c) R) := h
  have HA : Hid (Below w.heap.size w A ∧ Blk A b 30 [.slice ua nu uc, .slice oa no oc, .slice a m c] ∧ RPt A (.slice ua nu uc) (.slice oa no oc) (.slice a m c) R ∧ Blk A (b + 1) 30 [.slice none 0 0, .slice none 0 0, .slice none 0 0]) := ⟨hB, h2, h.below hB, h4⟩
  have HN : Hid (R.F.length = m ∧ R.U.length = nu ∧ R.O.length = no ∧ m ≤ 990 ∧ w.heap.size = b) := ⟨hm, hnu, hno, by omega, hb⟩
  have qu : (nu : Int) ≤ 1000 := by have := h.nu; omega
  have qo : (no : Int) ≤ 1000 := by have := h.no; omega
  have qm : (m : Int) ≤ 990 := by omega
  rw [hsu]
  clear h hF hm hnu hno hB h2 h4 hlu hqu
  go_enter Try.func31, Try.ntmps31
  obtain ⟨q, hq⟩ : ∃ q, rAddU R u = q := ⟨_, rfl⟩
  have HQ : Hid (rAddU R u = q) := hq
  rw [hq]
  clear hq
  by_cases h1 : isName u = true
  · have HCV1 := rname_is u hu0 A
    rw [hsu, h1] at HCV1
    have c0A : A.cell? ⟨b, 0, none⟩ = some (.slice ua nu uc) := HA.out.2.1.cell rfl
    have c1A : A.cell? ⟨b, 1, none⟩ = some (.slice oa no oc) := HA.out.2.1.cell rfl
    have c2A : A.cell? ⟨b, 2, none⟩ = some (.slice a m c) := HA.out.2.1.cell rfl
    go_wp2_with fail
    refine HCV1.mono ?_
    rintro e V1 ⟨rfl, hbV1⟩
    have HV1 : Hid (Below w.heap.size w V1 ∧ Blk V1 b 30 [.slice ua nu uc, .slice oa no oc, .slice a m c] ∧ RPt V1 (.slice ua nu uc) (.slice oa no oc) (.slice a m c) R ∧ Blk V1 (b + 1) 30 [.slice none 0 0, .slice none 0 0, .slice none 0 0]) := ⟨below_tr HA.out.1 hbV1, HA.out.2.1.below hbV1 HA.out.2.1.lt, HA.out.2.2.1.below hbV1, HA.out.2.2.2.below hbV1 HA.out.2.2.2.lt⟩
    clear hA hb
    clear c0A c1A c2A
    clear HCV1
    by_cases hm : u ∈ R.U
    · have HCV2 := rhas_b HV1.out.2.2.1.u HV1.out.2.2.1.nu u true (decide_eq_true hm)
      rw [hsu] at HCV2
      have c0V1 : V1.cell? ⟨b, 0, none⟩ = some (.slice ua nu uc) := HV1.out.2.1.cell rfl
      have c1V1 : V1.cell? ⟨b, 1, none⟩ = some (.slice oa no oc) := HV1.out.2.1.cell rfl
      have c2V1 : V1.cell? ⟨b, 2, none⟩ = some (.slice a m c) := HV1.out.2.1.cell rfl
      go_wp2_with fail
      refine HCV2.mono ?_
      rintro e V2 ⟨rfl, hbV2⟩
      have HV2 : Hid (Below w.heap.size w V2 ∧ Blk V2 b 30 [.slice ua nu uc, .slice oa no oc, .slice a m c] ∧ RPt V2 (.slice ua nu uc) (.slice oa no oc) (.slice a m c) R ∧ Blk V2 (b + 1) 30 [.slice none 0 0, .slice none 0 0, .slice none 0 0]) := ⟨below_tr HV1.out.1 hbV2, HV1.out.2.1.below hbV2 HV1.out.2.1.lt, HV1.out.2.2.1.below hbV2, HV1.out.2.2.2.below hbV2 HV1.out.2.2.2.lt⟩
      clear c0V1 c1V1 c2V1
      clear HCV2
      have HF : Hid (q = (R, 110)) := by show _ = _; rw [← HQ.out]; unfold rAddU; rw [if_neg (by rw [h1]; simp), if_pos hm]
      clear hm h1
      go_wp2_with (with_reducible change wpList _ _ _ ({ dst := some 14, op := _, type := _, pos := _, after := _, guard := _ } :: _) _ _; refine Hid.out ?_)
      show wpList _ _ _ _ _ _
      refine wpList_load_row rfl 30 (.tmp 2) rfl b rfl 30 #[.slice ua nu uc, .slice oa no oc, .slice a m c] (0, 0) _ HV2.out.2.1 Try.underlying30 rfl size30 ?_
      simp only [Act.put, List.setIfInBounds_toArray, List.set_cons_zero, List.set_cons_succ]
      go_wp2_with (with_reducible change wpList _ _ _ ({ dst := none, op := Op.store 30 _ _, type := _, pos := _, after := _, guard := _ } :: _) _ _; refine Hid.out ?_)
      show wpList _ _ _ _ _ _
      refine wpList_store_blk rfl 30 (.tmp 4) (.tmp 14) rfl (b + 1) 0 30 [.slice none 0 0, .slice none 0 0, .slice none 0 0] [.slice ua nu uc, .slice oa no oc, .slice a m c] rfl rfl HV2.out.2.2.2 (by simp) size30 (three HV2.out.2.2.1) ?_
      intro Ve hbe hge
      have HE : Hid (Blk Ve (b + 1) 30 [.slice ua nu uc, .slice oa no oc, .slice a m c] ∧ RPt Ve (.slice ua nu uc) (.slice oa no oc) (.slice a m c) R ∧ Below w.heap.size w Ve) := by
        have hn := HN.out.2.2.2.2
        have hbw : Below w.heap.size w Ve := HV2.out.1.grown hge.out HV2.out.1.size (fun j hj => by cases hj; omega)
        exact ⟨by simpa using hbe.out, rp_other HV2.out.2.2.1 HV2.out.2.2.2 hge.out, hbw⟩
      clear hbe hge
      go_wp2_with fail
      refine rret30u rfl rfl rfl rfl HE.out.1 ?_
      exact ⟨_, _, _, by rw [HF.out]; rfl, by rw [HF.out]; exact HE.out.2⟩
    · have HCV2 := rhas_b HV1.out.2.2.1.u HV1.out.2.2.1.nu u false (decide_eq_false hm)
      rw [hsu] at HCV2
      have c0V1 : V1.cell? ⟨b, 0, none⟩ = some (.slice ua nu uc) := HV1.out.2.1.cell rfl
      have c1V1 : V1.cell? ⟨b, 1, none⟩ = some (.slice oa no oc) := HV1.out.2.1.cell rfl
      have c2V1 : V1.cell? ⟨b, 2, none⟩ = some (.slice a m c) := HV1.out.2.1.cell rfl
      go_wp2_with fail
      refine HCV2.mono ?_
      rintro e V2 ⟨rfl, hbV2⟩
      have HV2 : Hid (Below w.heap.size w V2 ∧ Blk V2 b 30 [.slice ua nu uc, .slice oa no oc, .slice a m c] ∧ RPt V2 (.slice ua nu uc) (.slice oa no oc) (.slice a m c) R ∧ Blk V2 (b + 1) 30 [.slice none 0 0, .slice none 0 0, .slice none 0 0]) := ⟨below_tr HV1.out.1 hbV2, HV1.out.2.1.below hbV2 HV1.out.2.1.lt, HV1.out.2.2.1.below hbV2, HV1.out.2.2.2.below hbV2 HV1.out.2.2.2.lt⟩
      clear c0V1 c1V1 c2V1
      clear HCV2
      by_cases h64 : 64 ≤ nu
      · have q1 : (64 : Int) ≤ (nu : Int) := by omega
        have HF : Hid (q = (R, 3)) := by show _ = _; rw [← HQ.out]; unfold rAddU; rw [if_neg (by rw [h1]; simp), if_neg hm, if_pos (by rw [HN.out.2.1]; exact h64)]
        clear hm h1 h64
        have c0V2 : V2.cell? ⟨b, 0, none⟩ = some (.slice ua nu uc) := HV2.out.2.1.cell rfl
        have c1V2 : V2.cell? ⟨b, 1, none⟩ = some (.slice oa no oc) := HV2.out.2.1.cell rfl
        have c2V2 : V2.cell? ⟨b, 2, none⟩ = some (.slice a m c) := HV2.out.2.1.cell rfl
        go_wp2_with (with_reducible change wpList _ _ _ ({ dst := some 19, op := _, type := _, pos := _, after := _, guard := _ } :: _) _ _; refine Hid.out ?_)
        show wpList _ _ _ _ _ _
        refine wpList_load_row rfl 30 (.tmp 2) rfl b rfl 30 #[.slice ua nu uc, .slice oa no oc, .slice a m c] (0, 0) _ HV2.out.2.1 Try.underlying30 rfl size30 ?_
        simp only [Act.put, List.setIfInBounds_toArray, List.set_cons_zero, List.set_cons_succ]
        go_wp2_with (with_reducible change wpList _ _ _ ({ dst := none, op := Op.store 30 _ _, type := _, pos := _, after := _, guard := _ } :: _) _ _; refine Hid.out ?_)
        show wpList _ _ _ _ _ _
        refine wpList_store_blk rfl 30 (.tmp 4) (.tmp 19) rfl (b + 1) 0 30 [.slice none 0 0, .slice none 0 0, .slice none 0 0] [.slice ua nu uc, .slice oa no oc, .slice a m c] rfl rfl HV2.out.2.2.2 (by simp) size30 (three HV2.out.2.2.1) ?_
        intro Ve hbe hge
        have HE : Hid (Blk Ve (b + 1) 30 [.slice ua nu uc, .slice oa no oc, .slice a m c] ∧ RPt Ve (.slice ua nu uc) (.slice oa no oc) (.slice a m c) R ∧ Below w.heap.size w Ve) := by
          have hn := HN.out.2.2.2.2
          have hbw : Below w.heap.size w Ve := HV2.out.1.grown hge.out HV2.out.1.size (fun j hj => by cases hj; omega)
          exact ⟨by simpa using hbe.out, rp_other HV2.out.2.2.1 HV2.out.2.2.2 hge.out, hbw⟩
        clear hbe hge
        go_wp2_with fail
        refine rret30u rfl rfl rfl rfl HE.out.1 ?_
        exact ⟨_, _, _, by rw [HF.out]; rfl, by rw [HF.out]; exact HE.out.2⟩
      · have q1 : (nu : Int) < 64 := by omega
        have HF : Hid (q = ({ R with U := withL u R.U }, 0)) := by show _ = _; rw [← HQ.out]; unfold rAddU; rw [if_neg (by rw [h1]; simp), if_neg hm, if_neg (by rw [HN.out.2.1]; exact h64)]
        have HL : Hid ((withL u R.U).length ≤ 1000) := by
          have h2 := withL_len u R.U
          have h3 := HN.out.2.1
          show _ ≤ _
          omega
        clear hm h1 h64
        have HC := rWith_is HV2.out.2.2.1.u HV2.out.2.2.1.nu u
        rw [hsu] at HC
        have c0V2 : V2.cell? ⟨b, 0, none⟩ = some (.slice ua nu uc) := HV2.out.2.1.cell rfl
        have c1V2 : V2.cell? ⟨b, 1, none⟩ = some (.slice oa no oc) := HV2.out.2.1.cell rfl
        have c2V2 : V2.cell? ⟨b, 2, none⟩ = some (.slice a m c) := HV2.out.2.1.cell rfl
        go_wp2_with fail
        refine HC.mono ?_
        rintro e V3 ⟨v3, rfl, hs3, hb3⟩
        obtain ⟨ln, hln⟩ : ∃ n, (withL u R.U).length = n := ⟨_, rfl⟩
        rw [hln] at hs3
        have hs3' := hs3
        obtain ⟨la, lc, hv3, _⟩ := hs3
        subst hv3
        have HV3 : Hid (Below w.heap.size w V3 ∧ Blk V3 b 30 [.slice ua nu uc, .slice oa no oc, .slice a m c] ∧ RPt V3 (.slice ua nu uc) (.slice oa no oc) (.slice a m c) R ∧ Blk V3 (b + 1) 30 [.slice none 0 0, .slice none 0 0, .slice none 0 0]) := ⟨below_tr HV2.out.1 hb3, HV2.out.2.1.below hb3 HV2.out.2.1.lt, HV2.out.2.2.1.below hb3, HV2.out.2.2.2.below hb3 HV2.out.2.2.2.lt⟩
        clear c0V2 c1V2 c2V2
        clear HC
        go_wp2_with (with_reducible change wpList _ _ _ ({ dst := none, op := Op.store 27 _ _, type := _, pos := _, after := _, guard := _ } :: _) _ _; refine Hid.out ?_)
        show wpList _ _ _ _ _ _
        refine wpList_st1 rfl 27 (.tmp 24) (.tmp 23) rfl b 0 (.slice la ln lc) 30 [.slice ua nu uc, .slice oa no oc, .slice a m c] rfl rfl HV3.out.2.1 (by simp) size27 rfl rfl ?_
        intro V4 hb4 hg4
        have HV4 : Hid (Below w.heap.size w V4 ∧ Blk V4 b 30 [.slice la ln lc, .slice oa no oc, .slice a m c] ∧ RPt V4 (.slice la ln lc) (.slice oa no oc) (.slice a m c) { R with U := withL u R.U } ∧ Blk V4 (b + 1) 30 [.slice none 0 0, .slice none 0 0, .slice none 0 0]) := by
          have hn := HN.out.2.2.2.2
          refine ⟨HV3.out.1.grown hg4.out HV3.out.1.size (fun j hj => by cases hj; omega), by simpa using hb4.out, ?_, HV3.out.2.2.2.kept hg4.out (by simp)⟩
          refine rp_other (V := V3) ⟨by rw [show ({ R with U := withL u R.U } : Rp).U.length = ln from hln]; exact hs3', HV3.out.2.2.1.o, HV3.out.2.2.1.f, HL.out, HV3.out.2.2.1.no, HV3.out.2.2.1.nf⟩ HV3.out.2.1 hg4.out
        clear hs3' hb3 hb4 hg4 hln
        simp only [Act.put, List.setIfInBounds_toArray, List.set_cons_zero, List.set_cons_succ]
        go_wp2_with (with_reducible change wpList _ _ _ ({ dst := some 25, op := _, type := _, pos := _, after := _, guard := _ } :: _) _ _; refine Hid.out ?_)
        show wpList _ _ _ _ _ _
        refine wpList_load_row rfl 30 (.tmp 2) rfl b rfl 30 #[.slice la ln lc, .slice oa no oc, .slice a m c] (0, 0) _ HV4.out.2.1 Try.underlying30 rfl size30 ?_
        simp only [Act.put, List.setIfInBounds_toArray, List.set_cons_zero, List.set_cons_succ]
        go_wp2_with (with_reducible change wpList _ _ _ ({ dst := none, op := Op.store 30 _ _, type := _, pos := _, after := _, guard := _ } :: _) _ _; refine Hid.out ?_)
        show wpList _ _ _ _ _ _
        refine wpList_store_blk rfl 30 (.tmp 4) (.tmp 25) rfl (b + 1) 0 30 [.slice none 0 0, .slice none 0 0, .slice none 0 0] [.slice la ln lc, .slice oa no oc, .slice a m c] rfl rfl HV4.out.2.2.2 (by simp) size30 (three HV4.out.2.2.1) ?_
        intro Ve hbe hge
        have HE : Hid (Blk Ve (b + 1) 30 [.slice la ln lc, .slice oa no oc, .slice a m c] ∧ RPt Ve (.slice la ln lc) (.slice oa no oc) (.slice a m c) { R with U := withL u R.U } ∧ Below w.heap.size w Ve) := by
          have hn := HN.out.2.2.2.2
          have hbw : Below w.heap.size w Ve := HV4.out.1.grown hge.out HV4.out.1.size (fun j hj => by cases hj; omega)
          exact ⟨by simpa using hbe.out, rp_other HV4.out.2.2.1 HV4.out.2.2.2 hge.out, hbw⟩
        clear hbe hge
        go_wp2_with fail
        refine rret30u rfl rfl rfl rfl HE.out.1 ?_
        exact ⟨_, _, _, by rw [HF.out]; rfl, by rw [HF.out]; exact HE.out.2⟩
  · have h2 : isName u = false := by simpa using h1
    have HCV1 := rname_is u hu0 A
    rw [hsu, h2] at HCV1
    have c0A : A.cell? ⟨b, 0, none⟩ = some (.slice ua nu uc) := HA.out.2.1.cell rfl
    have c1A : A.cell? ⟨b, 1, none⟩ = some (.slice oa no oc) := HA.out.2.1.cell rfl
    have c2A : A.cell? ⟨b, 2, none⟩ = some (.slice a m c) := HA.out.2.1.cell rfl
    go_wp2_with fail
    refine HCV1.mono ?_
    rintro e V1 ⟨rfl, hbV1⟩
    have HV1 : Hid (Below w.heap.size w V1 ∧ Blk V1 b 30 [.slice ua nu uc, .slice oa no oc, .slice a m c] ∧ RPt V1 (.slice ua nu uc) (.slice oa no oc) (.slice a m c) R ∧ Blk V1 (b + 1) 30 [.slice none 0 0, .slice none 0 0, .slice none 0 0]) := ⟨below_tr HA.out.1 hbV1, HA.out.2.1.below hbV1 HA.out.2.1.lt, HA.out.2.2.1.below hbV1, HA.out.2.2.2.below hbV1 HA.out.2.2.2.lt⟩
    clear hA hb
    clear c0A c1A c2A
    clear HCV1
    have HF : Hid (q = (R, 150)) := by show _ = _; rw [← HQ.out]; unfold rAddU; rw [if_pos h2]
    clear h1 h2
    go_wp2_with (with_reducible change wpList _ _ _ ({ dst := some 9, op := _, type := _, pos := _, after := _, guard := _ } :: _) _ _; refine Hid.out ?_)
    show wpList _ _ _ _ _ _
    refine wpList_load_row rfl 30 (.tmp 2) rfl b rfl 30 #[.slice ua nu uc, .slice oa no oc, .slice a m c] (0, 0) _ HV1.out.2.1 Try.underlying30 rfl size30 ?_
    simp only [Act.put, List.setIfInBounds_toArray, List.set_cons_zero, List.set_cons_succ]
    go_wp2_with (with_reducible change wpList _ _ _ ({ dst := none, op := Op.store 30 _ _, type := _, pos := _, after := _, guard := _ } :: _) _ _; refine Hid.out ?_)
    show wpList _ _ _ _ _ _
    refine wpList_store_blk rfl 30 (.tmp 4) (.tmp 9) rfl (b + 1) 0 30 [.slice none 0 0, .slice none 0 0, .slice none 0 0] [.slice ua nu uc, .slice oa no oc, .slice a m c] rfl rfl HV1.out.2.2.2 (by simp) size30 (three HV1.out.2.2.1) ?_
    intro Ve hbe hge
    have HE : Hid (Blk Ve (b + 1) 30 [.slice ua nu uc, .slice oa no oc, .slice a m c] ∧ RPt Ve (.slice ua nu uc) (.slice oa no oc) (.slice a m c) R ∧ Below w.heap.size w Ve) := by
      have hn := HN.out.2.2.2.2
      have hbw : Below w.heap.size w Ve := HV1.out.1.grown hge.out HV1.out.1.size (fun j hj => by cases hj; omega)
      exact ⟨by simpa using hbe.out, rp_other HV1.out.2.2.1 HV1.out.2.2.2 hge.out, hbw⟩
    clear hbe hge
    go_wp2_with fail
    refine rret30u rfl rfl rfl rfl HE.out.1 ?_
    exact ⟨_, _, _, by rw [HF.out]; rfl, by rw [HF.out]; exact HE.out.2⟩
#print axioms raddU_is
end Go.Proofs.Ytfickhhfhdhcbaa.Oct
