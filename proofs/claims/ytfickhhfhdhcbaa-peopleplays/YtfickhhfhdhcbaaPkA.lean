/-
  Layer 15 (people): the document's people: AddUser.
  Layer 15 (people): the document's people: AddOrg, AddTeam, Out.
  Layer 15 (people): the document's people: AddTeam, Put.
  Layer 15 (people): the document's people: Join.
  Layer 15 (people): the document's people: Leave.
  Layer 15 (people): the document's people: one call as the document has it.
-/
import Derived.Test.YtfickhhfhdhcbaaRfe
/- Layer 15 (people): the document's people: AddUser. -/
namespace Go.Proofs.Ytfickhhfhdhcbaa.Oct
open Go.RowKit
set_option linter.unusedSimpArgs false
set_option linter.unusedVariables false

/-- the calls of the document's people -/
def rAddU (R : Rp) (u : Hs) : Rp × Int := if isName u = false then (R, 150) else if u ∈ R.U then (R, 110) else if 64 ≤ R.U.length then (R, 3) else ({ R with U := withL u R.U }, 0)
def rAddO (R : Rp) (x u : Hs) : Rp × Int := if isName x = false then (R, 150) else if x ∈ R.O then (R, 110) else if u ∉ R.U then (R, 111) else if 8 ≤ R.O.length then (R, 3) else ({ R with O := withL x R.O, F := R.F ++ [⟨x, [], u, 2⟩] }, 0)
def joF (F : List Fc) (x u : Hs) : List Fc := if fct F x [] u < 0 then F else F.eraseIdx (fct F x [] u).toNat
def rJoin (R : Rp) (x u : Hs) (r : Int) : Rp × Int := if x ∉ R.O then (R, 111) else if u ∉ R.U then (R, 111) else if r ≠ 1 ∧ r ≠ 2 then (R, 2) else if lastF R.F x u = true ∧ r = 1 then (R, 151) else ({ R with F := joF R.F x u ++ [⟨x, [], u, r⟩] }, 0)
def rLeave (R : Rp) (x u : Hs) : Rp × Int := if roleF R.F x u = 0 then (R, 111) else if lastF R.F x u = true then (R, 151) else ({ R with F := R.F.filter (fun f => f.o != x || f.u != u) }, 0)
def rTeam (R : Rp) (x t : Hs) : Rp × Int := if x ∉ R.O then (R, 111) else if isName t = false then (R, 150) else if t ∈ teaF R.F x then (R, 110) else if 8 ≤ (teaF R.F x).length then (R, 3) else ({ R with F := R.F ++ [⟨x, t, [], 0⟩] }, 0)
def rPut (R : Rp) (x t u : Hs) : Rp × Int := if t ∉ teaF R.F x then (R, 111) else if roleF R.F x u = 0 then (R, 111) else if 0 ≤ fct R.F x t u then (R, 110) else ({ R with F := R.F ++ [⟨x, t, u, 0⟩] }, 0)
def rOut (R : Rp) (x t u : Hs) : Rp × Int := if t = [] then (R, 111) else if u = [] then (R, 111) else if fct R.F x t u < 0 then (R, 111) else ({ R with F := R.F.eraseIdx (fct R.F x t u).toNat }, 0)
/-- one value stored -/
theorem wpList_st1 {ops : Array Oper} {rest : List Oper} {o : Oper} {a : Act} {w : World} {Q : Exit → Act → World → Prop} (hg : o.guard = none) (t : TypeId) (x y : Operand) (hop : o.op = .store t x y) (b k : Nat) (v : Value) (T : TypeId) (L : List Value) (hx : a.eval x = .pointer (some ⟨b, k, none⟩)) (hy : a.eval y = v) (hb : Blk w b T L) (hkl : k < L.length)
    (hi : (Try.prog.info? t).map (·.size) = some 1) (h1 : v.cells = #[v]) (h2 : v.oneCell' = true) (hk : ∀ w', Hid (Blk w' b T (L.set k v)) → Hid (w.grownBy w' (some b)) → wpList Try.prog ops Q rest (a.put o.dst undef) w') : wpList Try.prog ops Q (o :: rest) a w := by
  refine wpList_plain hg fun K hK => ?_
  obtain ⟨i, hi2, hi3⟩ := Option.map_eq_some_iff.1 hi
  obtain ⟨u, hu⟩ : ∃ u, L[k]? = some u := ⟨_, List.getElem?_eq_getElem hkl⟩
  have hc := hb.cell hu
  have hf := hb.free k
  unfold Oper.wp execOp
  simp [hop, hx, hy, Instr.storeAt, Instr.sureAddr, storeVar, sizeOf, typeInfo, hi2, hi3, h1, storeCells, run_store _ _ _ _ _ h2, stored, hc, hf, Addr.add_lit, Result.andThen]
  exact hK _ _ (hk _ (hb.set k v) (grown_setCell _ _ _ _))
theorem size27 : (Try.prog.info? 27).map (·.size) = some 1 := by kernel_rfl
theorem size28 : (Try.prog.info? 28).map (·.size) = some 1 := by kernel_rfl
/-- rows of names and of facts are no box of slices -/
theorem sv_other {V Ve : World} {v : Value} {n sz g : Nat} {cs : List Value} {a : Option Addr} {k c : Nat} {X : List Value} {T : TypeId} (h : SV V v n sz cs) (h0 : ∀ u, cs[0]? = some u → u ≠ .slice a k c) (hb : Blk V g T (.slice a k c :: X)) (hg : V.grownBy Ve (some g)) : SV Ve v n sz cs := by
  obtain ⟨a', c', rfl, h1, h2, h3, h4, h5⟩ := h
  refine ⟨a', c', rfl, h1, h2, h3, h4, ?_⟩
  rcases h5 with h5 | ⟨g', rfl, hl, hc⟩
  · exact .inl h5
  · refine .inr ⟨g', rfl, Nat.lt_of_lt_of_le hl hg.size, fun j u hu => hg.cell (hc j u hu) (fun e => ?_)⟩
    have e' : g' = g := by simpa using e
    subst e'
    have hlen : 0 < cs.length := by have := (List.getElem?_eq_some_iff.1 hu).1; omega
    have h6 : cs[0]? = some cs[0] := List.getElem?_eq_getElem hlen
    have h7 := hc 0 _ h6
    have h8 : V.cell? ⟨g', 0, none⟩ = some (.slice a k c) := hb.cell rfl
    rw [h8] at h7
    injection h7 with h7
    exact h0 _ h6 h7.symm
theorem hv_head {l : List Hs} {a : Option Addr} {k c : Nat} (u : Value) (h : (l.map hv)[0]? = some u) : u ≠ .slice a k c := by
  cases l with
  | nil => simp at h
  | cons x l => simp at h; subst h; unfold hv; exact fun e => by cases e
theorem fc_head {l : List Fc} {a : Option Addr} {k c : Nat} (u : Value) (h : (fcC l)[0]? = some u) : u ≠ .slice a k c := by
  cases l with
  | nil => simp [fcC] at h
  | cons x l => simp [fcC, Fc.cells] at h; subst h; unfold hv; exact fun e => by cases e
theorem rp_other {V Ve : World} {uv ov fv : Value} {R : Rp} {g : Nat} {a : Option Addr} {k c : Nat} {X : List Value} {T : TypeId} (h : RPt V uv ov fv R) (hb : Blk V g T (.slice a k c :: X)) (hg : V.grownBy Ve (some g)) : RPt Ve uv ov fv R := ⟨sv_other h.u hv_head hb hg, sv_other h.o hv_head hb hg, sv_other h.f fc_head hb hg, h.nu, h.no, h.nf⟩
set_option maxRecDepth 100000 in
set_option maxHeartbeats 4000000 in
theorem raddU_is {w : World} {uv ov fv : Value} {R : Rp} (h : RPt w uv ov fv R) (hF : R.F.length ≤ 990) (u : Hs) (hu0 : u.length ≤ 140737488355328) : Calls Try.prog 31 #[.agg #[uv, ov, fv], hv u] w (Ro w (rAddU R u)) := by
  obtain ⟨m, hm⟩ : ∃ m, R.F.length = m := ⟨_, rfl⟩
  obtain ⟨nu, hnu⟩ : ∃ m, R.U.length = m := ⟨_, rfl⟩
  obtain ⟨no, hno⟩ : ∃ m, R.O.length = m := ⟨_, rfl⟩
  obtain ⟨ua, uc, rfl, _⟩ := h.u
  obtain ⟨oa, oc, rfl, _⟩ := h.o
  obtain ⟨a, c, rfl, _⟩ := h.f
  rw [hm, hnu, hno] at h ⊢
  obtain ⟨su, hsu, hlu, hqu⟩ := bs_is u
  have HS : Hid (su.toList = u ∧ hv u = .string su ∧ True) := ⟨hlu, hsu, trivial⟩
  have hz30 := zero30
  obtain ⟨b, hb⟩ : ∃ b, w.heap.size = b := ⟨_, rfl⟩
  obtain ⟨A, hA⟩ : ∃ A, (w.alloc (.cells #[.slice ua nu uc, .slice oa no oc, .slice a m c] 30)).alloc (.cells #[.slice none 0 0, .slice none 0 0, .slice none 0 0] 30) = A := ⟨_, rfl⟩
  have hB : Below w.heap.size w A := by rw [← hA]; exact ((Below.refl _ w).alloc (Nat.le_refl _) _).alloc (by simp) _
  have h2 : Blk A b 30 [.slice ua nu uc, .slice oa no oc, .slice a m c] := by rw [← hA, ← hb]; exact (Blk.new w _ _).alloc _
  have h4 : Blk A (b + 1) 30 [.slice none 0 0, .slice none 0 0, .slice none 0 0] := by
    rw [← hA, ← hb]
    have := Blk.new (w.alloc (.cells #[.slice ua nu uc, .slice oa no oc, .slice a m c] 30)) #[.slice none 0 0, .slice none 0 0, .slice none 0 0] 30
    rwa [World.size_alloc] at this
  have HA0 : Hid (RPt w (.slice ua nu uc) (.slice oa no oc) (.slice a m c) R) := h
  have HA : Hid (Below w.heap.size w A ∧ Blk A b 30 [.slice ua nu uc, .slice oa no oc, .slice a m c] ∧ RPt A (.slice ua nu uc) (.slice oa no oc) (.slice a m c) R ∧ Blk A (b + 1) 30 [.slice none 0 0, .slice none 0 0, .slice none 0 0]) := ⟨hB, h2, h.below hB, h4⟩
  have HN : Hid (R.F.length = m ∧ R.U.length = nu ∧ R.O.length = no ∧ m ≤ 990 ∧ w.heap.size = b) := ⟨hm, hnu, hno, by omega, hb⟩
  have qu : (nu : Int) ≤ 1000 := by have := h.nu; omega
  have qo : (no : Int) ≤ 1000 := by have := h.no; omega
  have qm : (m : Int) ≤ 990 := by omega
  rw [hsu]
  clear h hF hm hnu hno hB h2 h4 hlu hqu
  go_enter Try.func31, Try.ntmps31
  obtain ⟨q, hq⟩ : ∃ q, rAddU R u = q := ⟨_, rfl⟩
  have HQ : Hid (rAddU R u = q) := hq
  rw [hq]
  clear hq
  by_cases h1 : isName u = true
  · have HCV1 := rname_is u hu0 A
    rw [hsu, h1] at HCV1
    have c0A : A.cell? ⟨b, 0, none⟩ = some (.slice ua nu uc) := HA.out.2.1.cell rfl
    have c1A : A.cell? ⟨b, 1, none⟩ = some (.slice oa no oc) := HA.out.2.1.cell rfl
    have c2A : A.cell? ⟨b, 2, none⟩ = some (.slice a m c) := HA.out.2.1.cell rfl
    go_wp2_with fail
    refine HCV1.mono ?_
    rintro e V1 ⟨rfl, hbV1⟩
    have HV1 : Hid (Below w.heap.size w V1 ∧ Blk V1 b 30 [.slice ua nu uc, .slice oa no oc, .slice a m c] ∧ RPt V1 (.slice ua nu uc) (.slice oa no oc) (.slice a m c) R ∧ Blk V1 (b + 1) 30 [.slice none 0 0, .slice none 0 0, .slice none 0 0]) := ⟨below_tr HA.out.1 hbV1, HA.out.2.1.below hbV1 HA.out.2.1.lt, HA.out.2.2.1.below hbV1, HA.out.2.2.2.below hbV1 HA.out.2.2.2.lt⟩
    clear hA hb
    clear c0A c1A c2A
    clear HCV1
    by_cases hm : u ∈ R.U
    · have HCV2 := rhas_b HV1.out.2.2.1.u HV1.out.2.2.1.nu u true (decide_eq_true hm)
      rw [hsu] at HCV2
      have c0V1 : V1.cell? ⟨b, 0, none⟩ = some (.slice ua nu uc) := HV1.out.2.1.cell rfl
      have c1V1 : V1.cell? ⟨b, 1, none⟩ = some (.slice oa no oc) := HV1.out.2.1.cell rfl
      have c2V1 : V1.cell? ⟨b, 2, none⟩ = some (.slice a m c) := HV1.out.2.1.cell rfl
      go_wp2_with fail
      refine HCV2.mono ?_
      rintro e V2 ⟨rfl, hbV2⟩
      have HV2 : Hid (Below w.heap.size w V2 ∧ Blk V2 b 30 [.slice ua nu uc, .slice oa no oc, .slice a m c] ∧ RPt V2 (.slice ua nu uc) (.slice oa no oc) (.slice a m c) R ∧ Blk V2 (b + 1) 30 [.slice none 0 0, .slice none 0 0, .slice none 0 0]) := ⟨below_tr HV1.out.1 hbV2, HV1.out.2.1.below hbV2 HV1.out.2.1.lt, HV1.out.2.2.1.below hbV2, HV1.out.2.2.2.below hbV2 HV1.out.2.2.2.lt⟩
      clear c0V1 c1V1 c2V1
      clear HCV2
      have HF : Hid (q = (R, 110)) := by show _ = _; rw [← HQ.out]; unfold rAddU; rw [if_neg (by rw [h1]; simp), if_pos hm]
      clear hm h1
      go_wp2_with (with_reducible change wpList _ _ _ ({ dst := some 14, op := _, type := _, pos := _, after := _, guard := _ } :: _) _ _; refine Hid.out ?_)
      show wpList _ _ _ _ _ _
      refine wpList_load_row rfl 30 (.tmp 2) rfl b rfl 30 #[.slice ua nu uc, .slice oa no oc, .slice a m c] (0, 0) _ HV2.out.2.1 Try.underlying30 rfl size30 ?_
      simp only [Act.put, List.setIfInBounds_toArray, List.set_cons_zero, List.set_cons_succ]
      go_wp2_with (with_reducible change wpList _ _ _ ({ dst := none, op := Op.store 30 _ _, type := _, pos := _, after := _, guard := _ } :: _) _ _; refine Hid.out ?_)
      show wpList _ _ _ _ _ _
      refine wpList_store_blk rfl 30 (.tmp 4) (.tmp 14) rfl (b + 1) 0 30 [.slice none 0 0, .slice none 0 0, .slice none 0 0] [.slice ua nu uc, .slice oa no oc, .slice a m c] rfl rfl HV2.out.2.2.2 (by simp) size30 (three HV2.out.2.2.1) ?_
      intro Ve hbe hge
      have HE : Hid (Blk Ve (b + 1) 30 [.slice ua nu uc, .slice oa no oc, .slice a m c] ∧ RPt Ve (.slice ua nu uc) (.slice oa no oc) (.slice a m c) R ∧ Below w.heap.size w Ve) := by
        have hn := HN.out.2.2.2.2
        have hbw : Below w.heap.size w Ve := HV2.out.1.grown hge.out HV2.out.1.size (fun j hj => by cases hj; omega)
        exact ⟨by simpa using hbe.out, rp_other HV2.out.2.2.1 HV2.out.2.2.2 hge.out, hbw⟩
      clear hbe hge
      go_wp2_with fail
      refine rret30u rfl rfl rfl rfl HE.out.1 ?_
      exact ⟨_, _, _, by rw [HF.out]; rfl, by rw [HF.out]; exact HE.out.2⟩
    · have HCV2 := rhas_b HV1.out.2.2.1.u HV1.out.2.2.1.nu u false (decide_eq_false hm)
      rw [hsu] at HCV2
      have c0V1 : V1.cell? ⟨b, 0, none⟩ = some (.slice ua nu uc) := HV1.out.2.1.cell rfl
      have c1V1 : V1.cell? ⟨b, 1, none⟩ = some (.slice oa no oc) := HV1.out.2.1.cell rfl
      have c2V1 : V1.cell? ⟨b, 2, none⟩ = some (.slice a m c) := HV1.out.2.1.cell rfl
      go_wp2_with fail
      refine HCV2.mono ?_
      rintro e V2 ⟨rfl, hbV2⟩
      have HV2 : Hid (Below w.heap.size w V2 ∧ Blk V2 b 30 [.slice ua nu uc, .slice oa no oc, .slice a m c] ∧ RPt V2 (.slice ua nu uc) (.slice oa no oc) (.slice a m c) R ∧ Blk V2 (b + 1) 30 [.slice none 0 0, .slice none 0 0, .slice none 0 0]) := ⟨below_tr HV1.out.1 hbV2, HV1.out.2.1.below hbV2 HV1.out.2.1.lt, HV1.out.2.2.1.below hbV2, HV1.out.2.2.2.below hbV2 HV1.out.2.2.2.lt⟩
      clear c0V1 c1V1 c2V1
      clear HCV2
      by_cases h64 : 64 ≤ nu
      · have q1 : (64 : Int) ≤ (nu : Int) := by omega
        have HF : Hid (q = (R, 3)) := by show _ = _; rw [← HQ.out]; unfold rAddU; rw [if_neg (by rw [h1]; simp), if_neg hm, if_pos (by rw [HN.out.2.1]; exact h64)]
        clear hm h1 h64
        have c0V2 : V2.cell? ⟨b, 0, none⟩ = some (.slice ua nu uc) := HV2.out.2.1.cell rfl
        have c1V2 : V2.cell? ⟨b, 1, none⟩ = some (.slice oa no oc) := HV2.out.2.1.cell rfl
        have c2V2 : V2.cell? ⟨b, 2, none⟩ = some (.slice a m c) := HV2.out.2.1.cell rfl
        go_wp2_with (with_reducible change wpList _ _ _ ({ dst := some 19, op := _, type := _, pos := _, after := _, guard := _ } :: _) _ _; refine Hid.out ?_)
        show wpList _ _ _ _ _ _
        refine wpList_load_row rfl 30 (.tmp 2) rfl b rfl 30 #[.slice ua nu uc, .slice oa no oc, .slice a m c] (0, 0) _ HV2.out.2.1 Try.underlying30 rfl size30 ?_
        simp only [Act.put, List.setIfInBounds_toArray, List.set_cons_zero, List.set_cons_succ]
        go_wp2_with (with_reducible change wpList _ _ _ ({ dst := none, op := Op.store 30 _ _, type := _, pos := _, after := _, guard := _ } :: _) _ _; refine Hid.out ?_)
        show wpList _ _ _ _ _ _
        refine wpList_store_blk rfl 30 (.tmp 4) (.tmp 19) rfl (b + 1) 0 30 [.slice none 0 0, .slice none 0 0, .slice none 0 0] [.slice ua nu uc, .slice oa no oc, .slice a m c] rfl rfl HV2.out.2.2.2 (by simp) size30 (three HV2.out.2.2.1) ?_
        intro Ve hbe hge
        have HE : Hid (Blk Ve (b + 1) 30 [.slice ua nu uc, .slice oa no oc, .slice a m c] ∧ RPt Ve (.slice ua nu uc) (.slice oa no oc) (.slice a m c) R ∧ Below w.heap.size w Ve) := by
          have hn := HN.out.2.2.2.2
          have hbw : Below w.heap.size w Ve := HV2.out.1.grown hge.out HV2.out.1.size (fun j hj => by cases hj; omega)
          exact ⟨by simpa using hbe.out, rp_other HV2.out.2.2.1 HV2.out.2.2.2 hge.out, hbw⟩
        clear hbe hge
        go_wp2_with fail
        refine rret30u rfl rfl rfl rfl HE.out.1 ?_
        exact ⟨_, _, _, by rw [HF.out]; rfl, by rw [HF.out]; exact HE.out.2⟩
      · have q1 : (nu : Int) < 64 := by omega
        have HF : Hid (q = ({ R with U := withL u R.U }, 0)) := by show _ = _; rw [← HQ.out]; unfold rAddU; rw [if_neg (by rw [h1]; simp), if_neg hm, if_neg (by rw [HN.out.2.1]; exact h64)]
        have HL : Hid ((withL u R.U).length ≤ 1000) := by
          have h2 := withL_len u R.U
          have h3 := HN.out.2.1
          show _ ≤ _
          omega
        clear hm h1 h64
        have HC := rWith_is HV2.out.2.2.1.u HV2.out.2.2.1.nu u
        rw [hsu] at HC
        have c0V2 : V2.cell? ⟨b, 0, none⟩ = some (.slice ua nu uc) := HV2.out.2.1.cell rfl
        have c1V2 : V2.cell? ⟨b, 1, none⟩ = some (.slice oa no oc) := HV2.out.2.1.cell rfl
        have c2V2 : V2.cell? ⟨b, 2, none⟩ = some (.slice a m c) := HV2.out.2.1.cell rfl
        go_wp2_with fail
        refine HC.mono ?_
        rintro e V3 ⟨v3, rfl, hs3, hb3⟩
        obtain ⟨ln, hln⟩ : ∃ n, (withL u R.U).length = n := ⟨_, rfl⟩
        rw [hln] at hs3
        have hs3' := hs3
        obtain ⟨la, lc, hv3, _⟩ := hs3
        subst hv3
        have HV3 : Hid (Below w.heap.size w V3 ∧ Blk V3 b 30 [.slice ua nu uc, .slice oa no oc, .slice a m c] ∧ RPt V3 (.slice ua nu uc) (.slice oa no oc) (.slice a m c) R ∧ Blk V3 (b + 1) 30 [.slice none 0 0, .slice none 0 0, .slice none 0 0]) := ⟨below_tr HV2.out.1 hb3, HV2.out.2.1.below hb3 HV2.out.2.1.lt, HV2.out.2.2.1.below hb3, HV2.out.2.2.2.below hb3 HV2.out.2.2.2.lt⟩
        clear c0V2 c1V2 c2V2
        clear HC
        go_wp2_with (with_reducible change wpList _ _ _ ({ dst := none, op := Op.store 27 _ _, type := _, pos := _, after := _, guard := _ } :: _) _ _; refine Hid.out ?_)
        show wpList _ _ _ _ _ _
        refine wpList_st1 rfl 27 (.tmp 24) (.tmp 23) rfl b 0 (.slice la ln lc) 30 [.slice ua nu uc, .slice oa no oc, .slice a m c] rfl rfl HV3.out.2.1 (by simp) size27 rfl rfl ?_
        intro V4 hb4 hg4
        have HV4 : Hid (Below w.heap.size w V4 ∧ Blk V4 b 30 [.slice la ln lc, .slice oa no oc, .slice a m c] ∧ RPt V4 (.slice la ln lc) (.slice oa no oc) (.slice a m c) { R with U := withL u R.U } ∧ Blk V4 (b + 1) 30 [.slice none 0 0, .slice none 0 0, .slice none 0 0]) := by
          have hn := HN.out.2.2.2.2
          refine ⟨HV3.out.1.grown hg4.out HV3.out.1.size (fun j hj => by cases hj; omega), by simpa using hb4.out, ?_, HV3.out.2.2.2.kept hg4.out (by simp)⟩
          refine rp_other (V := V3) ⟨by rw [show ({ R with U := withL u R.U } : Rp).U.length = ln from hln]; exact hs3', HV3.out.2.2.1.o, HV3.out.2.2.1.f, HL.out, HV3.out.2.2.1.no, HV3.out.2.2.1.nf⟩ HV3.out.2.1 hg4.out
        clear hs3' hb3 hb4 hg4 hln
        simp only [Act.put, List.setIfInBounds_toArray, List.set_cons_zero, List.set_cons_succ]
        go_wp2_with (with_reducible change wpList _ _ _ ({ dst := some 25, op := _, type := _, pos := _, after := _, guard := _ } :: _) _ _; refine Hid.out ?_)
        show wpList _ _ _ _ _ _
        refine wpList_load_row rfl 30 (.tmp 2) rfl b rfl 30 #[.slice la ln lc, .slice oa no oc, .slice a m c] (0, 0) _ HV4.out.2.1 Try.underlying30 rfl size30 ?_
        simp only [Act.put, List.setIfInBounds_toArray, List.set_cons_zero, List.set_cons_succ]
        go_wp2_with (with_reducible change wpList _ _ _ ({ dst := none, op := Op.store 30 _ _, type := _, pos := _, after := _, guard := _ } :: _) _ _; refine Hid.out ?_)
        show wpList _ _ _ _ _ _
        refine wpList_store_blk rfl 30 (.tmp 4) (.tmp 25) rfl (b + 1) 0 30 [.slice none 0 0, .slice none 0 0, .slice none 0 0] [.slice la ln lc, .slice oa no oc, .slice a m c] rfl rfl HV4.out.2.2.2 (by simp) size30 (three HV4.out.2.2.1) ?_
        intro Ve hbe hge
        have HE : Hid (Blk Ve (b + 1) 30 [.slice la ln lc, .slice oa no oc, .slice a m c] ∧ RPt Ve (.slice la ln lc) (.slice oa no oc) (.slice a m c) { R with U := withL u R.U } ∧ Below w.heap.size w Ve) := by
          have hn := HN.out.2.2.2.2
          have hbw : Below w.heap.size w Ve := HV4.out.1.grown hge.out HV4.out.1.size (fun j hj => by cases hj; omega)
          exact ⟨by simpa using hbe.out, rp_other HV4.out.2.2.1 HV4.out.2.2.2 hge.out, hbw⟩
        clear hbe hge
        go_wp2_with fail
        refine rret30u rfl rfl rfl rfl HE.out.1 ?_
        exact ⟨_, _, _, by rw [HF.out]; rfl, by rw [HF.out]; exact HE.out.2⟩
  · have h2 : isName u = false := by simpa using h1
    have HCV1 := rname_is u hu0 A
    rw [hsu, h2] at HCV1
    have c0A : A.cell? ⟨b, 0, none⟩ = some (.slice ua nu uc) := HA.out.2.1.cell rfl
    have c1A : A.cell? ⟨b, 1, none⟩ = some (.slice oa no oc) := HA.out.2.1.cell rfl
    have c2A : A.cell? ⟨b, 2, none⟩ = some (.slice a m c) := HA.out.2.1.cell rfl
    go_wp2_with fail
    refine HCV1.mono ?_
    rintro e V1 ⟨rfl, hbV1⟩
    have HV1 : Hid (Below w.heap.size w V1 ∧ Blk V1 b 30 [.slice ua nu uc, .slice oa no oc, .slice a m c] ∧ RPt V1 (.slice ua nu uc) (.slice oa no oc) (.slice a m c) R ∧ Blk V1 (b + 1) 30 [.slice none 0 0, .slice none 0 0, .slice none 0 0]) := ⟨below_tr HA.out.1 hbV1, HA.out.2.1.below hbV1 HA.out.2.1.lt, HA.out.2.2.1.below hbV1, HA.out.2.2.2.below hbV1 HA.out.2.2.2.lt⟩
    clear hA hb
    clear c0A c1A c2A
    clear HCV1
    have HF : Hid (q = (R, 150)) := by show _ = _; rw [← HQ.out]; unfold rAddU; rw [if_pos h2]
    clear h1 h2
    go_wp2_with (with_reducible change wpList _ _ _ ({ dst := some 9, op := _, type := _, pos := _, after := _, guard := _ } :: _) _ _; refine Hid.out ?_)
    show wpList _ _ _ _ _ _
    refine wpList_load_row rfl 30 (.tmp 2) rfl b rfl 30 #[.slice ua nu uc, .slice oa no oc, .slice a m c] (0, 0) _ HV1.out.2.1 Try.underlying30 rfl size30 ?_
    simp only [Act.put, List.setIfInBounds_toArray, List.set_cons_zero, List.set_cons_succ]
    go_wp2_with (with_reducible change wpList _ _ _ ({ dst := none, op := Op.store 30 _ _, type := _, pos := _, after := _, guard := _ } :: _) _ _; refine Hid.out ?_)
    show wpList _ _ _ _ _ _
    refine wpList_store_blk rfl 30 (.tmp 4) (.tmp 9) rfl (b + 1) 0 30 [.slice none 0 0, .slice none 0 0, .slice none 0 0] [.slice ua nu uc, .slice oa no oc, .slice a m c] rfl rfl HV1.out.2.2.2 (by simp) size30 (three HV1.out.2.2.1) ?_
    intro Ve hbe hge
    have HE : Hid (Blk Ve (b + 1) 30 [.slice ua nu uc, .slice oa no oc, .slice a m c] ∧ RPt Ve (.slice ua nu uc) (.slice oa no oc) (.slice a m c) R ∧ Below w.heap.size w Ve) := by
      have hn := HN.out.2.2.2.2
      have hbw : Below w.heap.size w Ve := HV1.out.1.grown hge.out HV1.out.1.size (fun j hj => by cases hj; omega)
      exact ⟨by simpa using hbe.out, rp_other HV1.out.2.2.1 HV1.out.2.2.2 hge.out, hbw⟩
    clear hbe hge
    go_wp2_with fail
    refine rret30u rfl rfl rfl rfl HE.out.1 ?_
    exact ⟨_, _, _, by rw [HF.out]; rfl, by rw [HF.out]; exact HE.out.2⟩
end Go.Proofs.Ytfickhhfhdhcbaa.Oct

/- Layer 15 (people): the document's people: AddOrg, AddTeam, Out. -/
namespace Go.Proofs.Ytfickhhfhdhcbaa.Oct
open Go.RowKit
set_option linter.unusedSimpArgs false
set_option linter.unusedVariables false

set_option maxRecDepth 100000 in
set_option maxHeartbeats 4000000 in
theorem raddO_is {w : World} {uv ov fv : Value} {R : Rp} (h : RPt w uv ov fv R) (hF : R.F.length ≤ 990) (o : Hs) (u : Hs) (ho0 : o.length ≤ 140737488355328) : Calls Try.prog 32 #[.agg #[uv, ov, fv], hv o, hv u] w (Ro w (rAddO R o u)) := by
  obtain ⟨m, hm⟩ : ∃ m, R.F.length = m := ⟨_, rfl⟩
  obtain ⟨nu, hnu⟩ : ∃ m, R.U.length = m := ⟨_, rfl⟩
  obtain ⟨no, hno⟩ : ∃ m, R.O.length = m := ⟨_, rfl⟩
  obtain ⟨ua, uc, rfl, _⟩ := h.u
  obtain ⟨oa, oc, rfl, _⟩ := h.o
  obtain ⟨a, c, rfl, _⟩ := h.f
  rw [hm, hnu, hno] at h ⊢
  obtain ⟨so, hso, hlo, hqo⟩ := bs_is o
  obtain ⟨su, hsu, hlu, hqu⟩ := bs_is u
  have HS : Hid (so.toList = o ∧ hv o = .string so ∧ su.toList = u ∧ hv u = .string su ∧ True) := ⟨hlo, hso, hlu, hsu, trivial⟩
  have hz30 := zero30
  obtain ⟨b, hb⟩ : ∃ b, w.heap.size = b := ⟨_, rfl⟩
  obtain ⟨A, hA⟩ : ∃ A, (w.alloc (.cells #[.slice ua nu uc, .slice oa no oc, .slice a m c] 30)).alloc (.cells #[.slice none 0 0, .slice none 0 0, .slice none 0 0] 30) = A := ⟨_, rfl⟩
  have hB : Below w.heap.size w A := by rw [← hA]; exact ((Below.refl _ w).alloc (Nat.le_refl _) _).alloc (by simp) _
  have h2 : Blk A b 30 [.slice ua nu uc, .slice oa no oc, .slice a m c] := by rw [← hA, ← hb]; exact (Blk.new w _ _).alloc _
  have h4 : Blk A (b + 1) 30 [.slice none 0 0, .slice none 0 0, .slice none 0 0] := by
    rw [← hA, ← hb]
    have := Blk.new (w.alloc (.cells #[.slice ua nu uc, .slice oa no oc, .slice a m c] 30)) #[.slice none 0 0, .slice none 0 0, .slice none 0 0] 30
    rwa [World.size_alloc] at this
  have HA0 : Hid (RPt w (.slice ua nu uc) (.slice oa no oc) (.slice a m c) R) := h
  have HA : Hid (Below w.heap.size w A ∧ Blk A b 30 [.slice ua nu uc, .slice oa no oc, .slice a m c] ∧ RPt A (.slice ua nu uc) (.slice oa no oc) (.slice a m c) R ∧ Blk A (b + 1) 30 [.slice none 0 0, .slice none 0 0, .slice none 0 0]) := ⟨hB, h2, h.below hB, h4⟩
  have HN : Hid (R.F.length = m ∧ R.U.length = nu ∧ R.O.length = no ∧ m ≤ 990 ∧ w.heap.size = b) := ⟨hm, hnu, hno, by omega, hb⟩
  have qu : (nu : Int) ≤ 1000 := by have := h.nu; omega
  have qo : (no : Int) ≤ 1000 := by have := h.no; omega
  have qm : (m : Int) ≤ 990 := by omega
  rw [hso, hsu]
  clear h hF hm hnu hno hB h2 h4 hlo hqo hlu hqu
  go_enter Try.func32, Try.ntmps32
  obtain ⟨q, hq⟩ : ∃ q, rAddO R o u = q := ⟨_, rfl⟩
  have HQ : Hid (rAddO R o u = q) := hq
  rw [hq]
  clear hq
  by_cases h1 : isName o = true
  · have HCV1 := rname_is o ho0 A
    rw [hso, h1] at HCV1
    have c0A : A.cell? ⟨b, 0, none⟩ = some (.slice ua nu uc) := HA.out.2.1.cell rfl
    have c1A : A.cell? ⟨b, 1, none⟩ = some (.slice oa no oc) := HA.out.2.1.cell rfl
    have c2A : A.cell? ⟨b, 2, none⟩ = some (.slice a m c) := HA.out.2.1.cell rfl
    go_wp2_with fail
    refine HCV1.mono ?_
    rintro e V1 ⟨rfl, hbV1⟩
    have HV1 : Hid (Below w.heap.size w V1 ∧ Blk V1 b 30 [.slice ua nu uc, .slice oa no oc, .slice a m c] ∧ RPt V1 (.slice ua nu uc) (.slice oa no oc) (.slice a m c) R ∧ Blk V1 (b + 1) 30 [.slice none 0 0, .slice none 0 0, .slice none 0 0]) := ⟨below_tr HA.out.1 hbV1, HA.out.2.1.below hbV1 HA.out.2.1.lt, HA.out.2.2.1.below hbV1, HA.out.2.2.2.below hbV1 HA.out.2.2.2.lt⟩
    clear hA hb
    clear c0A c1A c2A
    clear HCV1
    by_cases ho : o ∈ R.O
    · have HCV2 := rhas_b HV1.out.2.2.1.o HV1.out.2.2.1.no o true (decide_eq_true ho)
      rw [hso] at HCV2
      have c0V1 : V1.cell? ⟨b, 0, none⟩ = some (.slice ua nu uc) := HV1.out.2.1.cell rfl
      have c1V1 : V1.cell? ⟨b, 1, none⟩ = some (.slice oa no oc) := HV1.out.2.1.cell rfl
      have c2V1 : V1.cell? ⟨b, 2, none⟩ = some (.slice a m c) := HV1.out.2.1.cell rfl
      go_wp2_with fail
      refine HCV2.mono ?_
      rintro e V2 ⟨rfl, hbV2⟩
      have HV2 : Hid (Below w.heap.size w V2 ∧ Blk V2 b 30 [.slice ua nu uc, .slice oa no oc, .slice a m c] ∧ RPt V2 (.slice ua nu uc) (.slice oa no oc) (.slice a m c) R ∧ Blk V2 (b + 1) 30 [.slice none 0 0, .slice none 0 0, .slice none 0 0]) := ⟨below_tr HV1.out.1 hbV2, HV1.out.2.1.below hbV2 HV1.out.2.1.lt, HV1.out.2.2.1.below hbV2, HV1.out.2.2.2.below hbV2 HV1.out.2.2.2.lt⟩
      clear c0V1 c1V1 c2V1
      clear HCV2
      have HF : Hid (q = (R, 110)) := by show _ = _; rw [← HQ.out]; unfold rAddO; rw [if_neg (by rw [h1]; simp), if_pos ho]
      clear h1 ho
      go_wp2_with (with_reducible change wpList _ _ _ ({ dst := some 16, op := _, type := _, pos := _, after := _, guard := _ } :: _) _ _; refine Hid.out ?_)
      show wpList _ _ _ _ _ _
      refine wpList_load_row rfl 30 (.tmp 3) rfl b rfl 30 #[.slice ua nu uc, .slice oa no oc, .slice a m c] (0, 0) _ HV2.out.2.1 Try.underlying30 rfl size30 ?_
      simp only [Act.put, List.setIfInBounds_toArray, List.set_cons_zero, List.set_cons_succ]
      go_wp2_with (with_reducible change wpList _ _ _ ({ dst := none, op := Op.store 30 _ _, type := _, pos := _, after := _, guard := _ } :: _) _ _; refine Hid.out ?_)
      show wpList _ _ _ _ _ _
      refine wpList_store_blk rfl 30 (.tmp 6) (.tmp 16) rfl (b + 1) 0 30 [.slice none 0 0, .slice none 0 0, .slice none 0 0] [.slice ua nu uc, .slice oa no oc, .slice a m c] rfl rfl HV2.out.2.2.2 (by simp) size30 (three HV2.out.2.2.1) ?_
      intro Ve hbe hge
      have HE : Hid (Blk Ve (b + 1) 30 [.slice ua nu uc, .slice oa no oc, .slice a m c] ∧ RPt Ve (.slice ua nu uc) (.slice oa no oc) (.slice a m c) R ∧ Below w.heap.size w Ve) := by
        have hn := HN.out.2.2.2.2
        have hbw : Below w.heap.size w Ve := HV2.out.1.grown hge.out HV2.out.1.size (fun j hj => by cases hj; omega)
        exact ⟨by simpa using hbe.out, rp_other HV2.out.2.2.1 HV2.out.2.2.2 hge.out, hbw⟩
      clear hbe hge
      go_wp2_with fail
      refine rret30u rfl rfl rfl rfl HE.out.1 ?_
      exact ⟨_, _, _, by rw [HF.out]; rfl, by rw [HF.out]; exact HE.out.2⟩
    · have HCV2 := rhas_b HV1.out.2.2.1.o HV1.out.2.2.1.no o false (decide_eq_false ho)
      rw [hso] at HCV2
      have c0V1 : V1.cell? ⟨b, 0, none⟩ = some (.slice ua nu uc) := HV1.out.2.1.cell rfl
      have c1V1 : V1.cell? ⟨b, 1, none⟩ = some (.slice oa no oc) := HV1.out.2.1.cell rfl
      have c2V1 : V1.cell? ⟨b, 2, none⟩ = some (.slice a m c) := HV1.out.2.1.cell rfl
      go_wp2_with fail
      refine HCV2.mono ?_
      rintro e V2 ⟨rfl, hbV2⟩
      have HV2 : Hid (Below w.heap.size w V2 ∧ Blk V2 b 30 [.slice ua nu uc, .slice oa no oc, .slice a m c] ∧ RPt V2 (.slice ua nu uc) (.slice oa no oc) (.slice a m c) R ∧ Blk V2 (b + 1) 30 [.slice none 0 0, .slice none 0 0, .slice none 0 0]) := ⟨below_tr HV1.out.1 hbV2, HV1.out.2.1.below hbV2 HV1.out.2.1.lt, HV1.out.2.2.1.below hbV2, HV1.out.2.2.2.below hbV2 HV1.out.2.2.2.lt⟩
      clear c0V1 c1V1 c2V1
      clear HCV2
      by_cases hm : u ∈ R.U
      · have HCV3 := rhas_b HV2.out.2.2.1.u HV2.out.2.2.1.nu u true (decide_eq_true hm)
        rw [hsu] at HCV3
        have c0V2 : V2.cell? ⟨b, 0, none⟩ = some (.slice ua nu uc) := HV2.out.2.1.cell rfl
        have c1V2 : V2.cell? ⟨b, 1, none⟩ = some (.slice oa no oc) := HV2.out.2.1.cell rfl
        have c2V2 : V2.cell? ⟨b, 2, none⟩ = some (.slice a m c) := HV2.out.2.1.cell rfl
        go_wp2_with fail
        refine HCV3.mono ?_
        rintro e V3 ⟨rfl, hbV3⟩
        have HV3 : Hid (Below w.heap.size w V3 ∧ Blk V3 b 30 [.slice ua nu uc, .slice oa no oc, .slice a m c] ∧ RPt V3 (.slice ua nu uc) (.slice oa no oc) (.slice a m c) R ∧ Blk V3 (b + 1) 30 [.slice none 0 0, .slice none 0 0, .slice none 0 0]) := ⟨below_tr HV2.out.1 hbV3, HV2.out.2.1.below hbV3 HV2.out.2.1.lt, HV2.out.2.2.1.below hbV3, HV2.out.2.2.2.below hbV3 HV2.out.2.2.2.lt⟩
        clear c0V2 c1V2 c2V2
        clear HCV3
        by_cases h8 : 8 ≤ no
        · have q1 : (8 : Int) ≤ (no : Int) := by omega
          have HF : Hid (q = (R, 3)) := by show _ = _; rw [← HQ.out]; unfold rAddO; rw [if_neg (by rw [h1]; simp), if_neg ho, if_neg (fun h => h hm), if_pos (by rw [HN.out.2.2.1]; exact h8)]
          clear hm h1 ho h8
          have c0V3 : V3.cell? ⟨b, 0, none⟩ = some (.slice ua nu uc) := HV3.out.2.1.cell rfl
          have c1V3 : V3.cell? ⟨b, 1, none⟩ = some (.slice oa no oc) := HV3.out.2.1.cell rfl
          have c2V3 : V3.cell? ⟨b, 2, none⟩ = some (.slice a m c) := HV3.out.2.1.cell rfl
          go_wp2_with (with_reducible change wpList _ _ _ ({ dst := some 27, op := _, type := _, pos := _, after := _, guard := _ } :: _) _ _; refine Hid.out ?_)
          show wpList _ _ _ _ _ _
          refine wpList_load_row rfl 30 (.tmp 3) rfl b rfl 30 #[.slice ua nu uc, .slice oa no oc, .slice a m c] (0, 0) _ HV3.out.2.1 Try.underlying30 rfl size30 ?_
          simp only [Act.put, List.setIfInBounds_toArray, List.set_cons_zero, List.set_cons_succ]
          go_wp2_with (with_reducible change wpList _ _ _ ({ dst := none, op := Op.store 30 _ _, type := _, pos := _, after := _, guard := _ } :: _) _ _; refine Hid.out ?_)
          show wpList _ _ _ _ _ _
          refine wpList_store_blk rfl 30 (.tmp 6) (.tmp 27) rfl (b + 1) 0 30 [.slice none 0 0, .slice none 0 0, .slice none 0 0] [.slice ua nu uc, .slice oa no oc, .slice a m c] rfl rfl HV3.out.2.2.2 (by simp) size30 (three HV3.out.2.2.1) ?_
          intro Ve hbe hge
          have HE : Hid (Blk Ve (b + 1) 30 [.slice ua nu uc, .slice oa no oc, .slice a m c] ∧ RPt Ve (.slice ua nu uc) (.slice oa no oc) (.slice a m c) R ∧ Below w.heap.size w Ve) := by
            have hn := HN.out.2.2.2.2
            have hbw : Below w.heap.size w Ve := HV3.out.1.grown hge.out HV3.out.1.size (fun j hj => by cases hj; omega)
            exact ⟨by simpa using hbe.out, rp_other HV3.out.2.2.1 HV3.out.2.2.2 hge.out, hbw⟩
          clear hbe hge
          go_wp2_with fail
          refine rret30u rfl rfl rfl rfl HE.out.1 ?_
          exact ⟨_, _, _, by rw [HF.out]; rfl, by rw [HF.out]; exact HE.out.2⟩
        · have q1 : (no : Int) < 8 := by omega
          have HF : Hid (q = ({ R with O := withL o R.O, F := R.F ++ [⟨o, [], u, 2⟩] }, 0)) := by show _ = _; rw [← HQ.out]; unfold rAddO; rw [if_neg (by rw [h1]; simp), if_neg ho, if_neg (fun h => h hm), if_neg (by rw [HN.out.2.2.1]; exact h8)]
          have HL : Hid ((withL o R.O).length ≤ 1000) := by
            have h2 := withL_len o R.O
            have h3 := HN.out.2.2.1
            show _ ≤ _
            omega
          clear hm h1 h8 ho
          have HC := rWith_is HV3.out.2.2.1.o HV3.out.2.2.1.no o
          rw [hso] at HC
          have c0V3 : V3.cell? ⟨b, 0, none⟩ = some (.slice ua nu uc) := HV3.out.2.1.cell rfl
          have c1V3 : V3.cell? ⟨b, 1, none⟩ = some (.slice oa no oc) := HV3.out.2.1.cell rfl
          have c2V3 : V3.cell? ⟨b, 2, none⟩ = some (.slice a m c) := HV3.out.2.1.cell rfl
          go_wp2_with fail
          refine HC.mono ?_
          rintro e V4 ⟨v3, rfl, hs3, hb3⟩
          obtain ⟨ln, hln⟩ : ∃ n, (withL o R.O).length = n := ⟨_, rfl⟩
          rw [hln] at hs3
          have hs3' := hs3
          obtain ⟨la, lc, hv3, _⟩ := hs3
          subst hv3
          have HV4 : Hid (Below w.heap.size w V4 ∧ Blk V4 b 30 [.slice ua nu uc, .slice oa no oc, .slice a m c] ∧ RPt V4 (.slice ua nu uc) (.slice oa no oc) (.slice a m c) R ∧ Blk V4 (b + 1) 30 [.slice none 0 0, .slice none 0 0, .slice none 0 0]) := ⟨below_tr HV3.out.1 hb3, HV3.out.2.1.below hb3 HV3.out.2.1.lt, HV3.out.2.2.1.below hb3, HV3.out.2.2.2.below hb3 HV3.out.2.2.2.lt⟩
          clear c0V3 c1V3 c2V3
          clear HC
          go_wp2_with (with_reducible change wpList _ _ _ ({ dst := none, op := Op.store 27 _ _, type := _, pos := _, after := _, guard := _ } :: _) _ _; refine Hid.out ?_)
          show wpList _ _ _ _ _ _
          refine wpList_st1 rfl 27 (.tmp 32) (.tmp 31) rfl b 1 (.slice la ln lc) 30 [.slice ua nu uc, .slice oa no oc, .slice a m c] rfl rfl HV4.out.2.1 (by simp) size27 rfl rfl ?_
          intro V5 hb4 hg4
          have HV5 : Hid (Below w.heap.size w V5 ∧ Blk V5 b 30 [.slice ua nu uc, .slice la ln lc, .slice a m c] ∧ RPt V5 (.slice ua nu uc) (.slice la ln lc) (.slice a m c) { R with O := withL o R.O } ∧ Blk V5 (b + 1) 30 [.slice none 0 0, .slice none 0 0, .slice none 0 0]) := by
            have hn := HN.out.2.2.2.2
            refine ⟨HV4.out.1.grown hg4.out HV4.out.1.size (fun j hj => by cases hj; omega), by simpa using hb4.out, ?_, HV4.out.2.2.2.kept hg4.out (by simp)⟩
            refine rp_other (V := V4) ⟨HV4.out.2.2.1.u, by rw [show ({ R with O := withL o R.O } : Rp).O.length = ln from hln]; exact hs3', HV4.out.2.2.1.f, HV4.out.2.2.1.nu, HL.out, HV4.out.2.2.1.nf⟩ HV4.out.2.1 hg4.out
          clear hs3' hb3 hb4 hg4 hln
          simp only [Act.put, List.setIfInBounds_toArray, List.set_cons_zero, List.set_cons_succ]
          go_wp2_with (with_reducible change wpList _ _ _ ({ dst := some 33, op := _, type := _, pos := _, after := _, guard := _ } :: _) _ _; refine Hid.out ?_)
          show wpList _ _ _ _ _ _
          refine wpList_load_row rfl 30 (.tmp 3) rfl b rfl 30 #[.slice ua nu uc, .slice la ln lc, .slice a m c] (0, 0) _ HV5.out.2.1 Try.underlying30 rfl size30 ?_
          simp only [Act.put, List.setIfInBounds_toArray, List.set_cons_zero, List.set_cons_succ]
          have HC := rwith_is HV5.out.2.2.1 ⟨o, [], u, 2⟩ (by show R.F.length + 1 ≤ _; have := HN.out; omega)
          have HC2 : Calls Try.prog 62 #[.agg #[.slice ua nu uc, .slice la ln lc, .slice a m c], .agg #[hv o, hv [], hv u, iv 2]] V5 _ := HC
          rw [hso, show hv [] = .string ⟨#[]⟩ from rfl, hsu] at HC2
          clear HC
          go_wp2_with fail
          refine HC2.mono ?_
          rintro e V6 ⟨fv2, rfl, hr2, hbf⟩
          have HV6 : Hid (Below w.heap.size w V6 ∧ True ∧ RPt V6 (.slice ua nu uc) (.slice la ln lc) fv2 { R with O := withL o R.O, F := R.F ++ [⟨o, [], u, 2⟩] } ∧ Blk V6 (b + 1) 30 [.slice none 0 0, .slice none 0 0, .slice none 0 0]) := ⟨below_tr HV5.out.1 hbf, trivial, hr2, HV5.out.2.2.2.below hbf HV5.out.2.2.2.lt⟩
          clear HC2 hr2 hbf
          go_wp2_with (with_reducible change wpList _ _ _ ({ dst := none, op := Op.store 30 _ _, type := _, pos := _, after := _, guard := _ } :: _) _ _; refine Hid.out ?_)
          show wpList _ _ _ _ _ _
          refine wpList_store_blk rfl 30 (.tmp 6) (.tmp 37) rfl (b + 1) 0 30 [.slice none 0 0, .slice none 0 0, .slice none 0 0] [.slice ua nu uc, .slice la ln lc, fv2] rfl rfl HV6.out.2.2.2 (by simp) size30 (three HV6.out.2.2.1) ?_
          intro Ve hbe hge
          have HE : Hid (Blk Ve (b + 1) 30 [.slice ua nu uc, .slice la ln lc, fv2] ∧ RPt Ve (.slice ua nu uc) (.slice la ln lc) (fv2) { R with O := withL o R.O, F := R.F ++ [⟨o, [], u, 2⟩] } ∧ Below w.heap.size w Ve) := by
            have hn := HN.out.2.2.2.2
            have hbw : Below w.heap.size w Ve := HV6.out.1.grown hge.out HV6.out.1.size (fun j hj => by cases hj; omega)
            exact ⟨by simpa using hbe.out, rp_other HV6.out.2.2.1 HV6.out.2.2.2 hge.out, hbw⟩
          clear hbe hge
          go_wp2_with fail
          refine rret30u rfl rfl rfl rfl HE.out.1 ?_
          exact ⟨_, _, _, by rw [HF.out]; rfl, by rw [HF.out]; exact HE.out.2⟩
      · have HCV3 := rhas_b HV2.out.2.2.1.u HV2.out.2.2.1.nu u false (decide_eq_false hm)
        rw [hsu] at HCV3
        have c0V2 : V2.cell? ⟨b, 0, none⟩ = some (.slice ua nu uc) := HV2.out.2.1.cell rfl
        have c1V2 : V2.cell? ⟨b, 1, none⟩ = some (.slice oa no oc) := HV2.out.2.1.cell rfl
        have c2V2 : V2.cell? ⟨b, 2, none⟩ = some (.slice a m c) := HV2.out.2.1.cell rfl
        go_wp2_with fail
        refine HCV3.mono ?_
        rintro e V3 ⟨rfl, hbV3⟩
        have HV3 : Hid (Below w.heap.size w V3 ∧ Blk V3 b 30 [.slice ua nu uc, .slice oa no oc, .slice a m c] ∧ RPt V3 (.slice ua nu uc) (.slice oa no oc) (.slice a m c) R ∧ Blk V3 (b + 1) 30 [.slice none 0 0, .slice none 0 0, .slice none 0 0]) := ⟨below_tr HV2.out.1 hbV3, HV2.out.2.1.below hbV3 HV2.out.2.1.lt, HV2.out.2.2.1.below hbV3, HV2.out.2.2.2.below hbV3 HV2.out.2.2.2.lt⟩
        clear c0V2 c1V2 c2V2
        clear HCV3
        have HF : Hid (q = (R, 111)) := by show _ = _; rw [← HQ.out]; unfold rAddO; rw [if_neg (by rw [h1]; simp), if_neg ho, if_pos hm]
        clear hm h1 ho
        go_wp2_with (with_reducible change wpList _ _ _ ({ dst := some 22, op := _, type := _, pos := _, after := _, guard := _ } :: _) _ _; refine Hid.out ?_)
        show wpList _ _ _ _ _ _
        refine wpList_load_row rfl 30 (.tmp 3) rfl b rfl 30 #[.slice ua nu uc, .slice oa no oc, .slice a m c] (0, 0) _ HV3.out.2.1 Try.underlying30 rfl size30 ?_
        simp only [Act.put, List.setIfInBounds_toArray, List.set_cons_zero, List.set_cons_succ]
        go_wp2_with (with_reducible change wpList _ _ _ ({ dst := none, op := Op.store 30 _ _, type := _, pos := _, after := _, guard := _ } :: _) _ _; refine Hid.out ?_)
        show wpList _ _ _ _ _ _
        refine wpList_store_blk rfl 30 (.tmp 6) (.tmp 22) rfl (b + 1) 0 30 [.slice none 0 0, .slice none 0 0, .slice none 0 0] [.slice ua nu uc, .slice oa no oc, .slice a m c] rfl rfl HV3.out.2.2.2 (by simp) size30 (three HV3.out.2.2.1) ?_
        intro Ve hbe hge
        have HE : Hid (Blk Ve (b + 1) 30 [.slice ua nu uc, .slice oa no oc, .slice a m c] ∧ RPt Ve (.slice ua nu uc) (.slice oa no oc) (.slice a m c) R ∧ Below w.heap.size w Ve) := by
          have hn := HN.out.2.2.2.2
          have hbw : Below w.heap.size w Ve := HV3.out.1.grown hge.out HV3.out.1.size (fun j hj => by cases hj; omega)
          exact ⟨by simpa using hbe.out, rp_other HV3.out.2.2.1 HV3.out.2.2.2 hge.out, hbw⟩
        clear hbe hge
        go_wp2_with fail
        refine rret30u rfl rfl rfl rfl HE.out.1 ?_
        exact ⟨_, _, _, by rw [HF.out]; rfl, by rw [HF.out]; exact HE.out.2⟩
  · have h2 : isName o = false := by simpa using h1
    have HCV1 := rname_is o ho0 A
    rw [hso, h2] at HCV1
    have c0A : A.cell? ⟨b, 0, none⟩ = some (.slice ua nu uc) := HA.out.2.1.cell rfl
    have c1A : A.cell? ⟨b, 1, none⟩ = some (.slice oa no oc) := HA.out.2.1.cell rfl
    have c2A : A.cell? ⟨b, 2, none⟩ = some (.slice a m c) := HA.out.2.1.cell rfl
    go_wp2_with fail
    refine HCV1.mono ?_
    rintro e V1 ⟨rfl, hbV1⟩
    have HV1 : Hid (Below w.heap.size w V1 ∧ Blk V1 b 30 [.slice ua nu uc, .slice oa no oc, .slice a m c] ∧ RPt V1 (.slice ua nu uc) (.slice oa no oc) (.slice a m c) R ∧ Blk V1 (b + 1) 30 [.slice none 0 0, .slice none 0 0, .slice none 0 0]) := ⟨below_tr HA.out.1 hbV1, HA.out.2.1.below hbV1 HA.out.2.1.lt, HA.out.2.2.1.below hbV1, HA.out.2.2.2.below hbV1 HA.out.2.2.2.lt⟩
    clear hA hb
    clear c0A c1A c2A
    clear HCV1
    have HF : Hid (q = (R, 150)) := by show _ = _; rw [← HQ.out]; unfold rAddO; rw [if_pos h2]
    clear h1 h2
    go_wp2_with (with_reducible change wpList _ _ _ ({ dst := some 11, op := _, type := _, pos := _, after := _, guard := _ } :: _) _ _; refine Hid.out ?_)
    show wpList _ _ _ _ _ _
    refine wpList_load_row rfl 30 (.tmp 3) rfl b rfl 30 #[.slice ua nu uc, .slice oa no oc, .slice a m c] (0, 0) _ HV1.out.2.1 Try.underlying30 rfl size30 ?_
    simp only [Act.put, List.setIfInBounds_toArray, List.set_cons_zero, List.set_cons_succ]
    go_wp2_with (with_reducible change wpList _ _ _ ({ dst := none, op := Op.store 30 _ _, type := _, pos := _, after := _, guard := _ } :: _) _ _; refine Hid.out ?_)
    show wpList _ _ _ _ _ _
    refine wpList_store_blk rfl 30 (.tmp 6) (.tmp 11) rfl (b + 1) 0 30 [.slice none 0 0, .slice none 0 0, .slice none 0 0] [.slice ua nu uc, .slice oa no oc, .slice a m c] rfl rfl HV1.out.2.2.2 (by simp) size30 (three HV1.out.2.2.1) ?_
    intro Ve hbe hge
    have HE : Hid (Blk Ve (b + 1) 30 [.slice ua nu uc, .slice oa no oc, .slice a m c] ∧ RPt Ve (.slice ua nu uc) (.slice oa no oc) (.slice a m c) R ∧ Below w.heap.size w Ve) := by
      have hn := HN.out.2.2.2.2
      have hbw : Below w.heap.size w Ve := HV1.out.1.grown hge.out HV1.out.1.size (fun j hj => by cases hj; omega)
      exact ⟨by simpa using hbe.out, rp_other HV1.out.2.2.1 HV1.out.2.2.2 hge.out, hbw⟩
    clear hbe hge
    go_wp2_with fail
    refine rret30u rfl rfl rfl rfl HE.out.1 ?_
    exact ⟨_, _, _, by rw [HF.out]; rfl, by rw [HF.out]; exact HE.out.2⟩
set_option maxRecDepth 100000 in
set_option maxHeartbeats 4000000 in
theorem rout_is {w : World} {uv ov fv : Value} {R : Rp} (h : RPt w uv ov fv R) (hF : R.F.length ≤ 990) (o : Hs) (t : Hs) (u : Hs) : Calls Try.prog 37 #[.agg #[uv, ov, fv], hv o, hv t, hv u] w (Ro w (rOut R o t u)) := by
  obtain ⟨m, hm⟩ : ∃ m, R.F.length = m := ⟨_, rfl⟩
  obtain ⟨nu, hnu⟩ : ∃ m, R.U.length = m := ⟨_, rfl⟩
  obtain ⟨no, hno⟩ : ∃ m, R.O.length = m := ⟨_, rfl⟩
  obtain ⟨ua, uc, rfl, _⟩ := h.u
  obtain ⟨oa, oc, rfl, _⟩ := h.o
  obtain ⟨a, c, rfl, _⟩ := h.f
  rw [hm, hnu, hno] at h ⊢
  obtain ⟨so, hso, hlo, hqo⟩ := bs_is o
  obtain ⟨st, hst, hlt, hqt⟩ := bs_is t
  obtain ⟨su, hsu, hlu, hqu⟩ := bs_is u
  have HS : Hid (so.toList = o ∧ hv o = .string so ∧ st.toList = t ∧ hv t = .string st ∧ su.toList = u ∧ hv u = .string su ∧ True) := ⟨hlo, hso, hlt, hst, hlu, hsu, trivial⟩
  have hz30 := zero30
  obtain ⟨b, hb⟩ : ∃ b, w.heap.size = b := ⟨_, rfl⟩
  obtain ⟨A, hA⟩ : ∃ A, (w.alloc (.cells #[.slice ua nu uc, .slice oa no oc, .slice a m c] 30)).alloc (.cells #[.slice none 0 0, .slice none 0 0, .slice none 0 0] 30) = A := ⟨_, rfl⟩
  have hB : Below w.heap.size w A := by rw [← hA]; exact ((Below.refl _ w).alloc (Nat.le_refl _) _).alloc (by simp) _
  have h2 : Blk A b 30 [.slice ua nu uc, .slice oa no oc, .slice a m c] := by rw [← hA, ← hb]; exact (Blk.new w _ _).alloc _
  have h4 : Blk A (b + 1) 30 [.slice none 0 0, .slice none 0 0, .slice none 0 0] := by
    rw [← hA, ← hb]
    have := Blk.new (w.alloc (.cells #[.slice ua nu uc, .slice oa no oc, .slice a m c] 30)) #[.slice none 0 0, .slice none 0 0, .slice none 0 0] 30
    rwa [World.size_alloc] at this
  have HA0 : Hid (RPt w (.slice ua nu uc) (.slice oa no oc) (.slice a m c) R) := h
  have HA : Hid (Below w.heap.size w A ∧ Blk A b 30 [.slice ua nu uc, .slice oa no oc, .slice a m c] ∧ RPt A (.slice ua nu uc) (.slice oa no oc) (.slice a m c) R ∧ Blk A (b + 1) 30 [.slice none 0 0, .slice none 0 0, .slice none 0 0]) := ⟨hB, h2, h.below hB, h4⟩
  have HN : Hid (R.F.length = m ∧ R.U.length = nu ∧ R.O.length = no ∧ m ≤ 990 ∧ w.heap.size = b) := ⟨hm, hnu, hno, by omega, hb⟩
  have qu : (nu : Int) ≤ 1000 := by have := h.nu; omega
  have qo : (no : Int) ≤ 1000 := by have := h.no; omega
  have qm : (m : Int) ≤ 990 := by omega
  rw [hso, hst, hsu]
  clear h hF hm hnu hno hB h2 h4 hlo hqo hlt hqt hlu hqu
  go_enter Try.func37, Try.ntmps37
  obtain ⟨q, hq⟩ : ∃ q, rOut R o t u = q := ⟨_, rfl⟩
  have HQ : Hid (rOut R o t u = q) := hq
  rw [hq]
  clear hq
  obtain ⟨k, hk⟩ : ∃ k, fct R.F o t u = k := ⟨_, rfl⟩
  have HK : Hid (fct R.F o t u = k) := hk
  have HC := rfact_is HA.out.2.2.1 o t u
  rw [hso, hst, hsu, hk] at HC
  go_wp2_with (with_reducible change wpList _ _ _ ({ dst := some 11, op := _, type := _, pos := _, after := _, guard := _ } :: _) _ _; refine Hid.out ?_)
  show wpList _ _ _ _ _ _
  refine wpList_load_row rfl 30 (.tmp 4) rfl b rfl 30 #[.slice ua nu uc, .slice oa no oc, .slice a m c] (0, 0) _ HA.out.2.1 Try.underlying30 rfl size30 ?_
  simp only [Act.put, List.setIfInBounds_toArray, List.set_cons_zero, List.set_cons_succ]
  go_wp2_with fail
  refine HC.mono ?_
  rintro e V1 ⟨rfl, hb1⟩
  have HV1 : Hid (Below w.heap.size w V1 ∧ Blk V1 b 30 [.slice ua nu uc, .slice oa no oc, .slice a m c] ∧ RPt V1 (.slice ua nu uc) (.slice oa no oc) (.slice a m c) R ∧ Blk V1 (b + 1) 30 [.slice none 0 0, .slice none 0 0, .slice none 0 0]) := ⟨below_tr HA.out.1 hb1, HA.out.2.1.below hb1 HA.out.2.1.lt, HA.out.2.2.1.below hb1, HA.out.2.2.2.below hb1 HA.out.2.2.2.lt⟩
  clear HC hb1 hk hA hb
  by_cases ht : t = []
  · have e1 := empty_yes HS.out.2.2.1 ht
    have HF : Hid (q = (R, 111)) := by show _ = _; rw [← HQ.out]; unfold rOut; rw [if_pos ht]
    clear ht
    go_wp2_with (with_reducible change wpList _ _ _ ({ dst := some 26, op := _, type := _, pos := _, after := _, guard := _ } :: _) _ _; refine Hid.out ?_)
    show wpList _ _ _ _ _ _
    refine wpList_load_row rfl 30 (.tmp 4) rfl b rfl 30 #[.slice ua nu uc, .slice oa no oc, .slice a m c] (0, 0) _ HV1.out.2.1 Try.underlying30 rfl size30 ?_
    simp only [Act.put, List.setIfInBounds_toArray, List.set_cons_zero, List.set_cons_succ]
    go_wp2_with (with_reducible change wpList _ _ _ ({ dst := none, op := Op.store 30 _ _, type := _, pos := _, after := _, guard := _ } :: _) _ _; refine Hid.out ?_)
    show wpList _ _ _ _ _ _
    refine wpList_store_blk rfl 30 (.tmp 8) (.tmp 26) rfl (b + 1) 0 30 [.slice none 0 0, .slice none 0 0, .slice none 0 0] [.slice ua nu uc, .slice oa no oc, .slice a m c] rfl rfl HV1.out.2.2.2 (by simp) size30 (three HV1.out.2.2.1) ?_
    intro Ve hbe hge
    have HE : Hid (Blk Ve (b + 1) 30 [.slice ua nu uc, .slice oa no oc, .slice a m c] ∧ RPt Ve (.slice ua nu uc) (.slice oa no oc) (.slice a m c) R ∧ Below w.heap.size w Ve) := by
      have hn := HN.out.2.2.2.2
      have hbw : Below w.heap.size w Ve := HV1.out.1.grown hge.out HV1.out.1.size (fun j hj => by cases hj; omega)
      exact ⟨by simpa using hbe.out, rp_other HV1.out.2.2.1 HV1.out.2.2.2 hge.out, hbw⟩
    clear hbe hge
    go_wp2_with fail
    refine rret30u rfl rfl rfl rfl HE.out.1 ?_
    exact ⟨_, _, _, by rw [HF.out]; rfl, by rw [HF.out]; exact HE.out.2⟩
  · have e1 := empty_no HS.out.2.2.1 ht
    by_cases hu : u = []
    · have e2 := empty_yes HS.out.2.2.2.2.1 hu
      have HF : Hid (q = (R, 111)) := by show _ = _; rw [← HQ.out]; unfold rOut; rw [if_neg ht, if_pos hu]
      clear ht hu
      go_wp2_with (with_reducible change wpList _ _ _ ({ dst := some 26, op := _, type := _, pos := _, after := _, guard := _ } :: _) _ _; refine Hid.out ?_)
      show wpList _ _ _ _ _ _
      refine wpList_load_row rfl 30 (.tmp 4) rfl b rfl 30 #[.slice ua nu uc, .slice oa no oc, .slice a m c] (0, 0) _ HV1.out.2.1 Try.underlying30 rfl size30 ?_
      simp only [Act.put, List.setIfInBounds_toArray, List.set_cons_zero, List.set_cons_succ]
      go_wp2_with (with_reducible change wpList _ _ _ ({ dst := none, op := Op.store 30 _ _, type := _, pos := _, after := _, guard := _ } :: _) _ _; refine Hid.out ?_)
      show wpList _ _ _ _ _ _
      refine wpList_store_blk rfl 30 (.tmp 8) (.tmp 26) rfl (b + 1) 0 30 [.slice none 0 0, .slice none 0 0, .slice none 0 0] [.slice ua nu uc, .slice oa no oc, .slice a m c] rfl rfl HV1.out.2.2.2 (by simp) size30 (three HV1.out.2.2.1) ?_
      intro Ve hbe hge
      have HE : Hid (Blk Ve (b + 1) 30 [.slice ua nu uc, .slice oa no oc, .slice a m c] ∧ RPt Ve (.slice ua nu uc) (.slice oa no oc) (.slice a m c) R ∧ Below w.heap.size w Ve) := by
        have hn := HN.out.2.2.2.2
        have hbw : Below w.heap.size w Ve := HV1.out.1.grown hge.out HV1.out.1.size (fun j hj => by cases hj; omega)
        exact ⟨by simpa using hbe.out, rp_other HV1.out.2.2.1 HV1.out.2.2.2 hge.out, hbw⟩
      clear hbe hge
      go_wp2_with fail
      refine rret30u rfl rfl rfl rfl HE.out.1 ?_
      exact ⟨_, _, _, by rw [HF.out]; rfl, by rw [HF.out]; exact HE.out.2⟩
    · have e2 := empty_no HS.out.2.2.2.2.1 hu
      by_cases h0 : k < 0
      · have HF : Hid (q = (R, 111)) := by show _ = _; rw [← HQ.out]; unfold rOut; rw [if_neg ht, if_neg hu, if_pos (by rw [HK.out]; exact h0)]
        clear ht hu
        go_wp2_with (with_reducible change wpList _ _ _ ({ dst := some 26, op := _, type := _, pos := _, after := _, guard := _ } :: _) _ _; refine Hid.out ?_)
        show wpList _ _ _ _ _ _
        refine wpList_load_row rfl 30 (.tmp 4) rfl b rfl 30 #[.slice ua nu uc, .slice oa no oc, .slice a m c] (0, 0) _ HV1.out.2.1 Try.underlying30 rfl size30 ?_
        simp only [Act.put, List.setIfInBounds_toArray, List.set_cons_zero, List.set_cons_succ]
        go_wp2_with (with_reducible change wpList _ _ _ ({ dst := none, op := Op.store 30 _ _, type := _, pos := _, after := _, guard := _ } :: _) _ _; refine Hid.out ?_)
        show wpList _ _ _ _ _ _
        refine wpList_store_blk rfl 30 (.tmp 8) (.tmp 26) rfl (b + 1) 0 30 [.slice none 0 0, .slice none 0 0, .slice none 0 0] [.slice ua nu uc, .slice oa no oc, .slice a m c] rfl rfl HV1.out.2.2.2 (by simp) size30 (three HV1.out.2.2.1) ?_
        intro Ve hbe hge
        have HE : Hid (Blk Ve (b + 1) 30 [.slice ua nu uc, .slice oa no oc, .slice a m c] ∧ RPt Ve (.slice ua nu uc) (.slice oa no oc) (.slice a m c) R ∧ Below w.heap.size w Ve) := by
          have hn := HN.out.2.2.2.2
          have hbw : Below w.heap.size w Ve := HV1.out.1.grown hge.out HV1.out.1.size (fun j hj => by cases hj; omega)
          exact ⟨by simpa using hbe.out, rp_other HV1.out.2.2.1 HV1.out.2.2.2 hge.out, hbw⟩
        clear hbe hge
        go_wp2_with fail
        refine rret30u rfl rfl rfl rfl HE.out.1 ?_
        exact ⟨_, _, _, by rw [HF.out]; rfl, by rw [HF.out]; exact HE.out.2⟩
      · have HF0 : Hid (∃ (j : Nat) (f : Fc), k = j ∧ R.F[j]? = some f) := by
          rcases fct_cases R.F o t u with ⟨h5, _⟩ | ⟨j, f, h5, h6, _⟩
          · rw [HK.out] at h5; omega
          · exact ⟨j, f, by rw [← HK.out]; exact h5, h6⟩
        obtain ⟨j, f, rfl, hj⟩ := HF0.out
        have HF : Hid (q = ({ R with F := R.F.eraseIdx j }, 0)) := by show _ = _; rw [← HQ.out]; unfold rOut; rw [if_neg ht, if_neg hu, if_neg (by rw [HK.out]; exact h0), HK.out]; rfl
        have HC := rwithout_is HV1.out.2.2.1 hj
        clear ht hu HF0 hj HK
        go_wp2_with (with_reducible change wpList _ _ _ ({ dst := some 27, op := _, type := _, pos := _, after := _, guard := _ } :: _) _ _; refine Hid.out ?_)
        show wpList _ _ _ _ _ _
        refine wpList_load_row rfl 30 (.tmp 4) rfl b rfl 30 #[.slice ua nu uc, .slice oa no oc, .slice a m c] (0, 0) _ HV1.out.2.1 Try.underlying30 rfl size30 ?_
        simp only [Act.put, List.setIfInBounds_toArray, List.set_cons_zero, List.set_cons_succ]
        go_wp2_with fail
        refine HC.mono ?_
        rintro e V2 ⟨fv2, rfl, hr2, hbf⟩
        have HV2 : Hid (Below w.heap.size w V2 ∧ True ∧ RPt V2 (.slice ua nu uc) (.slice oa no oc) fv2 { R with F := R.F.eraseIdx j } ∧ Blk V2 (b + 1) 30 [.slice none 0 0, .slice none 0 0, .slice none 0 0]) := ⟨below_tr HV1.out.1 hbf, trivial, hr2, HV1.out.2.2.2.below hbf HV1.out.2.2.2.lt⟩
        clear HC hr2 hbf
        go_wp2_with (with_reducible change wpList _ _ _ ({ dst := none, op := Op.store 30 _ _, type := _, pos := _, after := _, guard := _ } :: _) _ _; refine Hid.out ?_)
        show wpList _ _ _ _ _ _
        refine wpList_store_blk rfl 30 (.tmp 8) (.tmp 29) rfl (b + 1) 0 30 [.slice none 0 0, .slice none 0 0, .slice none 0 0] [.slice ua nu uc, .slice oa no oc, fv2] rfl rfl HV2.out.2.2.2 (by simp) size30 (three HV2.out.2.2.1) ?_
        intro Ve hbe hge
        have HE : Hid (Blk Ve (b + 1) 30 [.slice ua nu uc, .slice oa no oc, fv2] ∧ RPt Ve (.slice ua nu uc) (.slice oa no oc) (fv2) { R with F := R.F.eraseIdx j } ∧ Below w.heap.size w Ve) := by
          have hn := HN.out.2.2.2.2
          have hbw : Below w.heap.size w Ve := HV2.out.1.grown hge.out HV2.out.1.size (fun j hj => by cases hj; omega)
          exact ⟨by simpa using hbe.out, rp_other HV2.out.2.2.1 HV2.out.2.2.2 hge.out, hbw⟩
        clear hbe hge
        go_wp2_with fail
        refine rret30u rfl rfl rfl rfl HE.out.1 ?_
        exact ⟨_, _, _, by rw [HF.out]; rfl, by rw [HF.out]; exact HE.out.2⟩
end Go.Proofs.Ytfickhhfhdhcbaa.Oct

/- Layer 15 (people): the document's people: AddTeam, Put. -/
namespace Go.Proofs.Ytfickhhfhdhcbaa.Oct
open Go.RowKit
set_option linter.unusedSimpArgs false
set_option linter.unusedVariables false

set_option maxRecDepth 100000 in
set_option maxHeartbeats 4000000 in
theorem rteam_is {w : World} {uv ov fv : Value} {R : Rp} (h : RPt w uv ov fv R) (hF : R.F.length ≤ 990) (o : Hs) (t : Hs) (ht0 : t.length ≤ 140737488355328) : Calls Try.prog 35 #[.agg #[uv, ov, fv], hv o, hv t] w (Ro w (rTeam R o t)) := by
  obtain ⟨m, hm⟩ : ∃ m, R.F.length = m := ⟨_, rfl⟩
  obtain ⟨nu, hnu⟩ : ∃ m, R.U.length = m := ⟨_, rfl⟩
  obtain ⟨no, hno⟩ : ∃ m, R.O.length = m := ⟨_, rfl⟩
  obtain ⟨ua, uc, rfl, _⟩ := h.u
  obtain ⟨oa, oc, rfl, _⟩ := h.o
  obtain ⟨a, c, rfl, _⟩ := h.f
  rw [hm, hnu, hno] at h ⊢
  obtain ⟨so, hso, hlo, hqo⟩ := bs_is o
  obtain ⟨st, hst, hlt, hqt⟩ := bs_is t
  have HS : Hid (so.toList = o ∧ hv o = .string so ∧ st.toList = t ∧ hv t = .string st ∧ True) := ⟨hlo, hso, hlt, hst, trivial⟩
  have hz30 := zero30
  obtain ⟨b, hb⟩ : ∃ b, w.heap.size = b := ⟨_, rfl⟩
  obtain ⟨A, hA⟩ : ∃ A, (w.alloc (.cells #[.slice ua nu uc, .slice oa no oc, .slice a m c] 30)).alloc (.cells #[.slice none 0 0, .slice none 0 0, .slice none 0 0] 30) = A := ⟨_, rfl⟩
  have hB : Below w.heap.size w A := by rw [← hA]; exact ((Below.refl _ w).alloc (Nat.le_refl _) _).alloc (by simp) _
  have h2 : Blk A b 30 [.slice ua nu uc, .slice oa no oc, .slice a m c] := by rw [← hA, ← hb]; exact (Blk.new w _ _).alloc _
  have h4 : Blk A (b + 1) 30 [.slice none 0 0, .slice none 0 0, .slice none 0 0] := by
    rw [← hA, ← hb]
    have := Blk.new (w.alloc (.cells #[.slice ua nu uc, .slice oa no oc, .slice a m c] 30)) #[.slice none 0 0, .slice none 0 0, .slice none 0 0] 30
    rwa [World.size_alloc] at this
  have HA0 : Hid (RPt w (.slice ua nu uc) (.slice oa no oc) (.slice a m c) R) := h
  have HA : Hid (Below w.heap.size w A ∧ Blk A b 30 [.slice ua nu uc, .slice oa no oc, .slice a m c] ∧ RPt A (.slice ua nu uc) (.slice oa no oc) (.slice a m c) R ∧ Blk A (b + 1) 30 [.slice none 0 0, .slice none 0 0, .slice none 0 0]) := ⟨hB, h2, h.below hB, h4⟩
  have HN : Hid (R.F.length = m ∧ R.U.length = nu ∧ R.O.length = no ∧ m ≤ 990 ∧ w.heap.size = b) := ⟨hm, hnu, hno, by omega, hb⟩
  have qu : (nu : Int) ≤ 1000 := by have := h.nu; omega
  have qo : (no : Int) ≤ 1000 := by have := h.no; omega
  have qm : (m : Int) ≤ 990 := by omega
  rw [hso, hst]
  clear h hF hm hnu hno hB h2 h4 hlo hqo hlt hqt
  go_enter Try.func35, Try.ntmps35
  obtain ⟨q, hq⟩ : ∃ q, rTeam R o t = q := ⟨_, rfl⟩
  have HQ : Hid (rTeam R o t = q) := hq
  rw [hq]
  clear hq
  obtain ⟨L, hL⟩ : ∃ L, teaF R.F o = L := ⟨_, rfl⟩
  obtain ⟨ln, hln⟩ : ∃ n, L.length = n := ⟨_, rfl⟩
  have HLN : Hid (teaF R.F o = L ∧ L.length = ln ∧ ln ≤ 990) := ⟨hL, hln, by have h1 := teaF_len R.F o; have h2 := HN.out; rw [hL] at h1; omega⟩
  have ql : (ln : Int) ≤ 990 := by have := HLN.out.2.2; omega
  by_cases ho : o ∈ R.O
  · have HCV1 := rhas_b HA.out.2.2.1.o HA.out.2.2.1.no o true (decide_eq_true ho)
    rw [hso] at HCV1
    have c0A : A.cell? ⟨b, 0, none⟩ = some (.slice ua nu uc) := HA.out.2.1.cell rfl
    have c1A : A.cell? ⟨b, 1, none⟩ = some (.slice oa no oc) := HA.out.2.1.cell rfl
    have c2A : A.cell? ⟨b, 2, none⟩ = some (.slice a m c) := HA.out.2.1.cell rfl
    go_wp2_with fail
    refine HCV1.mono ?_
    rintro e V1 ⟨rfl, hbV1⟩
    have HV1 : Hid (Below w.heap.size w V1 ∧ Blk V1 b 30 [.slice ua nu uc, .slice oa no oc, .slice a m c] ∧ RPt V1 (.slice ua nu uc) (.slice oa no oc) (.slice a m c) R ∧ Blk V1 (b + 1) 30 [.slice none 0 0, .slice none 0 0, .slice none 0 0]) := ⟨below_tr HA.out.1 hbV1, HA.out.2.1.below hbV1 HA.out.2.1.lt, HA.out.2.2.1.below hbV1, HA.out.2.2.2.below hbV1 HA.out.2.2.2.lt⟩
    clear c0A c1A c2A
    clear HCV1
    clear hA hb
    by_cases h1 : isName t = true
    · have HCV2 := rname_is t ht0 V1
      rw [hst, h1] at HCV2
      have c0V1 : V1.cell? ⟨b, 0, none⟩ = some (.slice ua nu uc) := HV1.out.2.1.cell rfl
      have c1V1 : V1.cell? ⟨b, 1, none⟩ = some (.slice oa no oc) := HV1.out.2.1.cell rfl
      have c2V1 : V1.cell? ⟨b, 2, none⟩ = some (.slice a m c) := HV1.out.2.1.cell rfl
      go_wp2_with fail
      refine HCV2.mono ?_
      rintro e V2 ⟨rfl, hbV2⟩
      have HV2 : Hid (Below w.heap.size w V2 ∧ Blk V2 b 30 [.slice ua nu uc, .slice oa no oc, .slice a m c] ∧ RPt V2 (.slice ua nu uc) (.slice oa no oc) (.slice a m c) R ∧ Blk V2 (b + 1) 30 [.slice none 0 0, .slice none 0 0, .slice none 0 0]) := ⟨below_tr HV1.out.1 hbV2, HV1.out.2.1.below hbV2 HV1.out.2.1.lt, HV1.out.2.2.1.below hbV2, HV1.out.2.2.2.below hbV2 HV1.out.2.2.2.lt⟩
      clear c0V1 c1V1 c2V1
      clear HCV2
      have HC1 := rteams_is HV2.out.2.2.1 (by have := HN.out; omega) o
      rw [hso, hL, hln] at HC1
      go_wp2_with (with_reducible change wpList _ _ _ ({ dst := some 18, op := _, type := _, pos := _, after := _, guard := _ } :: _) _ _; refine Hid.out ?_)
      show wpList _ _ _ _ _ _
      refine wpList_load_row rfl 30 (.tmp 3) rfl b rfl 30 #[.slice ua nu uc, .slice oa no oc, .slice a m c] (0, 0) _ HV2.out.2.1 Try.underlying30 rfl size30 ?_
      simp only [Act.put, List.setIfInBounds_toArray, List.set_cons_zero, List.set_cons_succ]
      go_wp2_with fail
      refine HC1.mono ?_
      rintro e V3 ⟨v1, rfl, hs1, hb1⟩
      have hs1' := hs1
      obtain ⟨la1, lc1, hv1, _⟩ := hs1
      subst hv1
      have HV3 : Hid (Below w.heap.size w V3 ∧ Blk V3 b 30 [.slice ua nu uc, .slice oa no oc, .slice a m c] ∧ RPt V3 (.slice ua nu uc) (.slice oa no oc) (.slice a m c) R ∧ Blk V3 (b + 1) 30 [.slice none 0 0, .slice none 0 0, .slice none 0 0]) := ⟨below_tr HV2.out.1 hb1, HV2.out.2.1.below hb1 HV2.out.2.1.lt, HV2.out.2.2.1.below hb1, HV2.out.2.2.2.below hb1 HV2.out.2.2.2.lt⟩
      have HT1 : Hid (SV V3 (.slice la1 ln lc1) ln 1 (L.map hv)) := hs1'
      clear HC1 hs1' hb1
      by_cases ht : t ∈ L
      · have HCV4 := rhas_b HT1.out (by have := HLN.out; omega) t true (decide_eq_true ht)
        rw [hst] at HCV4
        have c0V3 : V3.cell? ⟨b, 0, none⟩ = some (.slice ua nu uc) := HV3.out.2.1.cell rfl
        have c1V3 : V3.cell? ⟨b, 1, none⟩ = some (.slice oa no oc) := HV3.out.2.1.cell rfl
        have c2V3 : V3.cell? ⟨b, 2, none⟩ = some (.slice a m c) := HV3.out.2.1.cell rfl
        go_wp2_with fail
        refine HCV4.mono ?_
        rintro e V4 ⟨rfl, hbV4⟩
        have HV4 : Hid (Below w.heap.size w V4 ∧ Blk V4 b 30 [.slice ua nu uc, .slice oa no oc, .slice a m c] ∧ RPt V4 (.slice ua nu uc) (.slice oa no oc) (.slice a m c) R ∧ Blk V4 (b + 1) 30 [.slice none 0 0, .slice none 0 0, .slice none 0 0]) := ⟨below_tr HV3.out.1 hbV4, HV3.out.2.1.below hbV4 HV3.out.2.1.lt, HV3.out.2.2.1.below hbV4, HV3.out.2.2.2.below hbV4 HV3.out.2.2.2.lt⟩
        clear c0V3 c1V3 c2V3
        clear HCV4
        have HF : Hid (q = (R, 110)) := by show _ = _; rw [← HQ.out]; unfold rTeam; rw [if_neg (fun h => h ho), if_neg (by rw [h1]; simp), if_pos (by rw [HLN.out.1]; exact ht)]
        clear h1 ho ht hL hln
        go_wp2_with (with_reducible change wpList _ _ _ ({ dst := some 23, op := _, type := _, pos := _, after := _, guard := _ } :: _) _ _; refine Hid.out ?_)
        show wpList _ _ _ _ _ _
        refine wpList_load_row rfl 30 (.tmp 3) rfl b rfl 30 #[.slice ua nu uc, .slice oa no oc, .slice a m c] (0, 0) _ HV4.out.2.1 Try.underlying30 rfl size30 ?_
        simp only [Act.put, List.setIfInBounds_toArray, List.set_cons_zero, List.set_cons_succ]
        go_wp2_with (with_reducible change wpList _ _ _ ({ dst := none, op := Op.store 30 _ _, type := _, pos := _, after := _, guard := _ } :: _) _ _; refine Hid.out ?_)
        show wpList _ _ _ _ _ _
        refine wpList_store_blk rfl 30 (.tmp 6) (.tmp 23) rfl (b + 1) 0 30 [.slice none 0 0, .slice none 0 0, .slice none 0 0] [.slice ua nu uc, .slice oa no oc, .slice a m c] rfl rfl HV4.out.2.2.2 (by simp) size30 (three HV4.out.2.2.1) ?_
        intro Ve hbe hge
        have HE : Hid (Blk Ve (b + 1) 30 [.slice ua nu uc, .slice oa no oc, .slice a m c] ∧ RPt Ve (.slice ua nu uc) (.slice oa no oc) (.slice a m c) R ∧ Below w.heap.size w Ve) := by
          have hn := HN.out.2.2.2.2
          have hbw : Below w.heap.size w Ve := HV4.out.1.grown hge.out HV4.out.1.size (fun j hj => by cases hj; omega)
          exact ⟨by simpa using hbe.out, rp_other HV4.out.2.2.1 HV4.out.2.2.2 hge.out, hbw⟩
        clear hbe hge
        go_wp2_with fail
        refine rret30u rfl rfl rfl rfl HE.out.1 ?_
        exact ⟨_, _, _, by rw [HF.out]; rfl, by rw [HF.out]; exact HE.out.2⟩
      · have HCV4 := rhas_b HT1.out (by have := HLN.out; omega) t false (decide_eq_false ht)
        rw [hst] at HCV4
        have c0V3 : V3.cell? ⟨b, 0, none⟩ = some (.slice ua nu uc) := HV3.out.2.1.cell rfl
        have c1V3 : V3.cell? ⟨b, 1, none⟩ = some (.slice oa no oc) := HV3.out.2.1.cell rfl
        have c2V3 : V3.cell? ⟨b, 2, none⟩ = some (.slice a m c) := HV3.out.2.1.cell rfl
        go_wp2_with fail
        refine HCV4.mono ?_
        rintro e V4 ⟨rfl, hbV4⟩
        have HV4 : Hid (Below w.heap.size w V4 ∧ Blk V4 b 30 [.slice ua nu uc, .slice oa no oc, .slice a m c] ∧ RPt V4 (.slice ua nu uc) (.slice oa no oc) (.slice a m c) R ∧ Blk V4 (b + 1) 30 [.slice none 0 0, .slice none 0 0, .slice none 0 0]) := ⟨below_tr HV3.out.1 hbV4, HV3.out.2.1.below hbV4 HV3.out.2.1.lt, HV3.out.2.2.1.below hbV4, HV3.out.2.2.2.below hbV4 HV3.out.2.2.2.lt⟩
        clear c0V3 c1V3 c2V3
        clear HCV4
        have HC2 := rteams_is HV4.out.2.2.1 (by have := HN.out; omega) o
        rw [hso, hL, hln] at HC2
        go_wp2_with (with_reducible change wpList _ _ _ ({ dst := some 24, op := _, type := _, pos := _, after := _, guard := _ } :: _) _ _; refine Hid.out ?_)
        show wpList _ _ _ _ _ _
        refine wpList_load_row rfl 30 (.tmp 3) rfl b rfl 30 #[.slice ua nu uc, .slice oa no oc, .slice a m c] (0, 0) _ HV4.out.2.1 Try.underlying30 rfl size30 ?_
        simp only [Act.put, List.setIfInBounds_toArray, List.set_cons_zero, List.set_cons_succ]
        go_wp2_with fail
        refine HC2.mono ?_
        rintro e V5 ⟨v2, rfl, hs2, hb2⟩
        have hs2' := hs2
        obtain ⟨la2, lc2, hv2, _⟩ := hs2
        subst hv2
        have HV5 : Hid (Below w.heap.size w V5 ∧ Blk V5 b 30 [.slice ua nu uc, .slice oa no oc, .slice a m c] ∧ RPt V5 (.slice ua nu uc) (.slice oa no oc) (.slice a m c) R ∧ Blk V5 (b + 1) 30 [.slice none 0 0, .slice none 0 0, .slice none 0 0]) := ⟨below_tr HV4.out.1 hb2, HV4.out.2.1.below hb2 HV4.out.2.1.lt, HV4.out.2.2.1.below hb2, HV4.out.2.2.2.below hb2 HV4.out.2.2.2.lt⟩
        have HT2 : Hid (SV V5 (.slice la2 ln lc2) ln 1 (L.map hv)) := hs2'
        clear HC2 hs2' hb2
        by_cases h8 : 8 ≤ ln
        · have q1 : (8 : Int) ≤ (ln : Int) := by omega
          have HF : Hid (q = (R, 3)) := by show _ = _; rw [← HQ.out]; unfold rTeam; rw [if_neg (fun h => h ho), if_neg (by rw [h1]; simp), if_neg (by rw [HLN.out.1]; exact ht), if_pos (by rw [HLN.out.1, HLN.out.2.1]; exact h8)]
          clear h1 ho h8 ht hL hln
          go_wp2_with (with_reducible change wpList _ _ _ ({ dst := some 29, op := _, type := _, pos := _, after := _, guard := _ } :: _) _ _; refine Hid.out ?_)
          show wpList _ _ _ _ _ _
          refine wpList_load_row rfl 30 (.tmp 3) rfl b rfl 30 #[.slice ua nu uc, .slice oa no oc, .slice a m c] (0, 0) _ HV5.out.2.1 Try.underlying30 rfl size30 ?_
          simp only [Act.put, List.setIfInBounds_toArray, List.set_cons_zero, List.set_cons_succ]
          go_wp2_with (with_reducible change wpList _ _ _ ({ dst := none, op := Op.store 30 _ _, type := _, pos := _, after := _, guard := _ } :: _) _ _; refine Hid.out ?_)
          show wpList _ _ _ _ _ _
          refine wpList_store_blk rfl 30 (.tmp 6) (.tmp 29) rfl (b + 1) 0 30 [.slice none 0 0, .slice none 0 0, .slice none 0 0] [.slice ua nu uc, .slice oa no oc, .slice a m c] rfl rfl HV5.out.2.2.2 (by simp) size30 (three HV5.out.2.2.1) ?_
          intro Ve hbe hge
          have HE : Hid (Blk Ve (b + 1) 30 [.slice ua nu uc, .slice oa no oc, .slice a m c] ∧ RPt Ve (.slice ua nu uc) (.slice oa no oc) (.slice a m c) R ∧ Below w.heap.size w Ve) := by
            have hn := HN.out.2.2.2.2
            have hbw : Below w.heap.size w Ve := HV5.out.1.grown hge.out HV5.out.1.size (fun j hj => by cases hj; omega)
            exact ⟨by simpa using hbe.out, rp_other HV5.out.2.2.1 HV5.out.2.2.2 hge.out, hbw⟩
          clear hbe hge
          go_wp2_with fail
          refine rret30u rfl rfl rfl rfl HE.out.1 ?_
          exact ⟨_, _, _, by rw [HF.out]; rfl, by rw [HF.out]; exact HE.out.2⟩
        · have q1 : (ln : Int) < 8 := by omega
          have HF : Hid (q = ({ R with F := R.F ++ [⟨o, t, [], 0⟩] }, 0)) := by show _ = _; rw [← HQ.out]; unfold rTeam; rw [if_neg (fun h => h ho), if_neg (by rw [h1]; simp), if_neg (by rw [HLN.out.1]; exact ht), if_neg (by rw [HLN.out.1, HLN.out.2.1]; exact h8)]
          clear h1 ho h8 ht hL hln
          go_wp2_with (with_reducible change wpList _ _ _ ({ dst := some 30, op := _, type := _, pos := _, after := _, guard := _ } :: _) _ _; refine Hid.out ?_)
          show wpList _ _ _ _ _ _
          refine wpList_load_row rfl 30 (.tmp 3) rfl b rfl 30 #[.slice ua nu uc, .slice oa no oc, .slice a m c] (0, 0) _ HV5.out.2.1 Try.underlying30 rfl size30 ?_
          simp only [Act.put, List.setIfInBounds_toArray, List.set_cons_zero, List.set_cons_succ]
          have HC := rwith_is HV5.out.2.2.1 ⟨o, t, [], 0⟩ (by show R.F.length + 1 ≤ _; have := HN.out; omega)
          have HC2 : Calls Try.prog 62 #[.agg #[.slice ua nu uc, .slice oa no oc, .slice a m c], .agg #[hv o, hv t, hv [], iv 0]] V5 _ := HC
          rw [hso, hst, show hv [] = .string ⟨#[]⟩ from rfl] at HC2
          clear HC
          go_wp2_with fail
          refine HC2.mono ?_
          rintro e V6 ⟨fv2, rfl, hr2, hbf⟩
          have HV6 : Hid (Below w.heap.size w V6 ∧ True ∧ RPt V6 (.slice ua nu uc) (.slice oa no oc) fv2 { R with F := R.F ++ [⟨o, t, [], 0⟩] } ∧ Blk V6 (b + 1) 30 [.slice none 0 0, .slice none 0 0, .slice none 0 0]) := ⟨below_tr HV5.out.1 hbf, trivial, hr2, HV5.out.2.2.2.below hbf HV5.out.2.2.2.lt⟩
          clear HC2 hr2 hbf
          go_wp2_with (with_reducible change wpList _ _ _ ({ dst := none, op := Op.store 30 _ _, type := _, pos := _, after := _, guard := _ } :: _) _ _; refine Hid.out ?_)
          show wpList _ _ _ _ _ _
          refine wpList_store_blk rfl 30 (.tmp 6) (.tmp 34) rfl (b + 1) 0 30 [.slice none 0 0, .slice none 0 0, .slice none 0 0] [.slice ua nu uc, .slice oa no oc, fv2] rfl rfl HV6.out.2.2.2 (by simp) size30 (three HV6.out.2.2.1) ?_
          intro Ve hbe hge
          have HE : Hid (Blk Ve (b + 1) 30 [.slice ua nu uc, .slice oa no oc, fv2] ∧ RPt Ve (.slice ua nu uc) (.slice oa no oc) (fv2) { R with F := R.F ++ [⟨o, t, [], 0⟩] } ∧ Below w.heap.size w Ve) := by
            have hn := HN.out.2.2.2.2
            have hbw : Below w.heap.size w Ve := HV6.out.1.grown hge.out HV6.out.1.size (fun j hj => by cases hj; omega)
            exact ⟨by simpa using hbe.out, rp_other HV6.out.2.2.1 HV6.out.2.2.2 hge.out, hbw⟩
          clear hbe hge
          go_wp2_with fail
          refine rret30u rfl rfl rfl rfl HE.out.1 ?_
          exact ⟨_, _, _, by rw [HF.out]; rfl, by rw [HF.out]; exact HE.out.2⟩
    · have h2 : isName t = false := by simpa using h1
      have HCV2 := rname_is t ht0 V1
      rw [hst, h2] at HCV2
      have c0V1 : V1.cell? ⟨b, 0, none⟩ = some (.slice ua nu uc) := HV1.out.2.1.cell rfl
      have c1V1 : V1.cell? ⟨b, 1, none⟩ = some (.slice oa no oc) := HV1.out.2.1.cell rfl
      have c2V1 : V1.cell? ⟨b, 2, none⟩ = some (.slice a m c) := HV1.out.2.1.cell rfl
      go_wp2_with fail
      refine HCV2.mono ?_
      rintro e V2 ⟨rfl, hbV2⟩
      have HV2 : Hid (Below w.heap.size w V2 ∧ Blk V2 b 30 [.slice ua nu uc, .slice oa no oc, .slice a m c] ∧ RPt V2 (.slice ua nu uc) (.slice oa no oc) (.slice a m c) R ∧ Blk V2 (b + 1) 30 [.slice none 0 0, .slice none 0 0, .slice none 0 0]) := ⟨below_tr HV1.out.1 hbV2, HV1.out.2.1.below hbV2 HV1.out.2.1.lt, HV1.out.2.2.1.below hbV2, HV1.out.2.2.2.below hbV2 HV1.out.2.2.2.lt⟩
      clear c0V1 c1V1 c2V1
      clear HCV2
      have HF : Hid (q = (R, 150)) := by show _ = _; rw [← HQ.out]; unfold rTeam; rw [if_neg (fun h => h ho), if_pos h2]
      clear h1 h2 ho hL hln
      go_wp2_with (with_reducible change wpList _ _ _ ({ dst := some 17, op := _, type := _, pos := _, after := _, guard := _ } :: _) _ _; refine Hid.out ?_)
      show wpList _ _ _ _ _ _
      refine wpList_load_row rfl 30 (.tmp 3) rfl b rfl 30 #[.slice ua nu uc, .slice oa no oc, .slice a m c] (0, 0) _ HV2.out.2.1 Try.underlying30 rfl size30 ?_
      simp only [Act.put, List.setIfInBounds_toArray, List.set_cons_zero, List.set_cons_succ]
      go_wp2_with (with_reducible change wpList _ _ _ ({ dst := none, op := Op.store 30 _ _, type := _, pos := _, after := _, guard := _ } :: _) _ _; refine Hid.out ?_)
      show wpList _ _ _ _ _ _
      refine wpList_store_blk rfl 30 (.tmp 6) (.tmp 17) rfl (b + 1) 0 30 [.slice none 0 0, .slice none 0 0, .slice none 0 0] [.slice ua nu uc, .slice oa no oc, .slice a m c] rfl rfl HV2.out.2.2.2 (by simp) size30 (three HV2.out.2.2.1) ?_
      intro Ve hbe hge
      have HE : Hid (Blk Ve (b + 1) 30 [.slice ua nu uc, .slice oa no oc, .slice a m c] ∧ RPt Ve (.slice ua nu uc) (.slice oa no oc) (.slice a m c) R ∧ Below w.heap.size w Ve) := by
        have hn := HN.out.2.2.2.2
        have hbw : Below w.heap.size w Ve := HV2.out.1.grown hge.out HV2.out.1.size (fun j hj => by cases hj; omega)
        exact ⟨by simpa using hbe.out, rp_other HV2.out.2.2.1 HV2.out.2.2.2 hge.out, hbw⟩
      clear hbe hge
      go_wp2_with fail
      refine rret30u rfl rfl rfl rfl HE.out.1 ?_
      exact ⟨_, _, _, by rw [HF.out]; rfl, by rw [HF.out]; exact HE.out.2⟩
  · have HCV1 := rhas_b HA.out.2.2.1.o HA.out.2.2.1.no o false (decide_eq_false ho)
    rw [hso] at HCV1
    have c0A : A.cell? ⟨b, 0, none⟩ = some (.slice ua nu uc) := HA.out.2.1.cell rfl
    have c1A : A.cell? ⟨b, 1, none⟩ = some (.slice oa no oc) := HA.out.2.1.cell rfl
    have c2A : A.cell? ⟨b, 2, none⟩ = some (.slice a m c) := HA.out.2.1.cell rfl
    go_wp2_with fail
    refine HCV1.mono ?_
    rintro e V1 ⟨rfl, hbV1⟩
    have HV1 : Hid (Below w.heap.size w V1 ∧ Blk V1 b 30 [.slice ua nu uc, .slice oa no oc, .slice a m c] ∧ RPt V1 (.slice ua nu uc) (.slice oa no oc) (.slice a m c) R ∧ Blk V1 (b + 1) 30 [.slice none 0 0, .slice none 0 0, .slice none 0 0]) := ⟨below_tr HA.out.1 hbV1, HA.out.2.1.below hbV1 HA.out.2.1.lt, HA.out.2.2.1.below hbV1, HA.out.2.2.2.below hbV1 HA.out.2.2.2.lt⟩
    clear c0A c1A c2A
    clear HCV1
    clear hA hb
    have HF : Hid (q = (R, 111)) := by show _ = _; rw [← HQ.out]; unfold rTeam; rw [if_pos ho]
    clear ho hL hln
    go_wp2_with (with_reducible change wpList _ _ _ ({ dst := some 13, op := _, type := _, pos := _, after := _, guard := _ } :: _) _ _; refine Hid.out ?_)
    show wpList _ _ _ _ _ _
    refine wpList_load_row rfl 30 (.tmp 3) rfl b rfl 30 #[.slice ua nu uc, .slice oa no oc, .slice a m c] (0, 0) _ HV1.out.2.1 Try.underlying30 rfl size30 ?_
    simp only [Act.put, List.setIfInBounds_toArray, List.set_cons_zero, List.set_cons_succ]
    go_wp2_with (with_reducible change wpList _ _ _ ({ dst := none, op := Op.store 30 _ _, type := _, pos := _, after := _, guard := _ } :: _) _ _; refine Hid.out ?_)
    show wpList _ _ _ _ _ _
    refine wpList_store_blk rfl 30 (.tmp 6) (.tmp 13) rfl (b + 1) 0 30 [.slice none 0 0, .slice none 0 0, .slice none 0 0] [.slice ua nu uc, .slice oa no oc, .slice a m c] rfl rfl HV1.out.2.2.2 (by simp) size30 (three HV1.out.2.2.1) ?_
    intro Ve hbe hge
    have HE : Hid (Blk Ve (b + 1) 30 [.slice ua nu uc, .slice oa no oc, .slice a m c] ∧ RPt Ve (.slice ua nu uc) (.slice oa no oc) (.slice a m c) R ∧ Below w.heap.size w Ve) := by
      have hn := HN.out.2.2.2.2
      have hbw : Below w.heap.size w Ve := HV1.out.1.grown hge.out HV1.out.1.size (fun j hj => by cases hj; omega)
      exact ⟨by simpa using hbe.out, rp_other HV1.out.2.2.1 HV1.out.2.2.2 hge.out, hbw⟩
    clear hbe hge
    go_wp2_with fail
    refine rret30u rfl rfl rfl rfl HE.out.1 ?_
    exact ⟨_, _, _, by rw [HF.out]; rfl, by rw [HF.out]; exact HE.out.2⟩
set_option maxRecDepth 100000 in
set_option maxHeartbeats 4000000 in
theorem rput_is {w : World} {uv ov fv : Value} {R : Rp} (h : RPt w uv ov fv R) (hF : R.F.length ≤ 990) (o : Hs) (t : Hs) (u : Hs) : Calls Try.prog 36 #[.agg #[uv, ov, fv], hv o, hv t, hv u] w (Ro w (rPut R o t u)) := by
  obtain ⟨m, hm⟩ : ∃ m, R.F.length = m := ⟨_, rfl⟩
  obtain ⟨nu, hnu⟩ : ∃ m, R.U.length = m := ⟨_, rfl⟩
  obtain ⟨no, hno⟩ : ∃ m, R.O.length = m := ⟨_, rfl⟩
  obtain ⟨ua, uc, rfl, _⟩ := h.u
  obtain ⟨oa, oc, rfl, _⟩ := h.o
  obtain ⟨a, c, rfl, _⟩ := h.f
  rw [hm, hnu, hno] at h ⊢
  obtain ⟨so, hso, hlo, hqo⟩ := bs_is o
  obtain ⟨st, hst, hlt, hqt⟩ := bs_is t
  obtain ⟨su, hsu, hlu, hqu⟩ := bs_is u
  have HS : Hid (so.toList = o ∧ hv o = .string so ∧ st.toList = t ∧ hv t = .string st ∧ su.toList = u ∧ hv u = .string su ∧ True) := ⟨hlo, hso, hlt, hst, hlu, hsu, trivial⟩
  have hz30 := zero30
  obtain ⟨b, hb⟩ : ∃ b, w.heap.size = b := ⟨_, rfl⟩
  obtain ⟨A, hA⟩ : ∃ A, (w.alloc (.cells #[.slice ua nu uc, .slice oa no oc, .slice a m c] 30)).alloc (.cells #[.slice none 0 0, .slice none 0 0, .slice none 0 0] 30) = A := ⟨_, rfl⟩
  have hB : Below w.heap.size w A := by rw [← hA]; exact ((Below.refl _ w).alloc (Nat.le_refl _) _).alloc (by simp) _
  have h2 : Blk A b 30 [.slice ua nu uc, .slice oa no oc, .slice a m c] := by rw [← hA, ← hb]; exact (Blk.new w _ _).alloc _
  have h4 : Blk A (b + 1) 30 [.slice none 0 0, .slice none 0 0, .slice none 0 0] := by
    rw [← hA, ← hb]
    have := Blk.new (w.alloc (.cells #[.slice ua nu uc, .slice oa no oc, .slice a m c] 30)) #[.slice none 0 0, .slice none 0 0, .slice none 0 0] 30
    rwa [World.size_alloc] at this
  have HA0 : Hid (RPt w (.slice ua nu uc) (.slice oa no oc) (.slice a m c) R) := h
  have HA : Hid (Below w.heap.size w A ∧ Blk A b 30 [.slice ua nu uc, .slice oa no oc, .slice a m c] ∧ RPt A (.slice ua nu uc) (.slice oa no oc) (.slice a m c) R ∧ Blk A (b + 1) 30 [.slice none 0 0, .slice none 0 0, .slice none 0 0]) := ⟨hB, h2, h.below hB, h4⟩
  have HN : Hid (R.F.length = m ∧ R.U.length = nu ∧ R.O.length = no ∧ m ≤ 990 ∧ w.heap.size = b) := ⟨hm, hnu, hno, by omega, hb⟩
  have qu : (nu : Int) ≤ 1000 := by have := h.nu; omega
  have qo : (no : Int) ≤ 1000 := by have := h.no; omega
  have qm : (m : Int) ≤ 990 := by omega
  rw [hso, hst, hsu]
  clear h hF hm hnu hno hB h2 h4 hlo hqo hlt hqt hlu hqu
  go_enter Try.func36, Try.ntmps36
  obtain ⟨q, hq⟩ : ∃ q, rPut R o t u = q := ⟨_, rfl⟩
  have HQ : Hid (rPut R o t u = q) := hq
  rw [hq]
  clear hq
  obtain ⟨L, hL⟩ : ∃ L, teaF R.F o = L := ⟨_, rfl⟩
  obtain ⟨ln, hln⟩ : ∃ n, L.length = n := ⟨_, rfl⟩
  have HLN : Hid (teaF R.F o = L ∧ L.length = ln ∧ ln ≤ 990) := ⟨hL, hln, by have h1 := teaF_len R.F o; have h2 := HN.out; rw [hL] at h1; omega⟩
  have ql : (ln : Int) ≤ 990 := by have := HLN.out.2.2; omega
  obtain ⟨k, hk⟩ : ∃ k, fct R.F o t u = k := ⟨_, rfl⟩
  have HK : Hid (fct R.F o t u = k) := hk
  obtain ⟨r, hr0⟩ : ∃ k, roleF R.F o u = k := ⟨_, rfl⟩
  have HR0 : Hid (roleF R.F o u = r) := hr0
  have HC1 := rteams_is HA.out.2.2.1 (by have := HN.out; omega) o
  rw [hso, hL, hln] at HC1
  go_wp2_with (with_reducible change wpList _ _ _ ({ dst := some 10, op := _, type := _, pos := _, after := _, guard := _ } :: _) _ _; refine Hid.out ?_)
  show wpList _ _ _ _ _ _
  refine wpList_load_row rfl 30 (.tmp 4) rfl b rfl 30 #[.slice ua nu uc, .slice oa no oc, .slice a m c] (0, 0) _ HA.out.2.1 Try.underlying30 rfl size30 ?_
  simp only [Act.put, List.setIfInBounds_toArray, List.set_cons_zero, List.set_cons_succ]
  go_wp2_with fail
  refine HC1.mono ?_
  rintro e V1 ⟨v1, rfl, hs1, hb1⟩
  have hs1' := hs1
  obtain ⟨la1, lc1, hv1, _⟩ := hs1
  subst hv1
  have HV1 : Hid (Below w.heap.size w V1 ∧ Blk V1 b 30 [.slice ua nu uc, .slice oa no oc, .slice a m c] ∧ RPt V1 (.slice ua nu uc) (.slice oa no oc) (.slice a m c) R ∧ Blk V1 (b + 1) 30 [.slice none 0 0, .slice none 0 0, .slice none 0 0]) := ⟨below_tr HA.out.1 hb1, HA.out.2.1.below hb1 HA.out.2.1.lt, HA.out.2.2.1.below hb1, HA.out.2.2.2.below hb1 HA.out.2.2.2.lt⟩
  have HT1 : Hid (SV V1 (.slice la1 ln lc1) ln 1 (L.map hv)) := hs1'
  clear HC1 hs1' hb1
  clear hA hb
  by_cases ht : t ∈ L
  · have HCV2 := rhas_b HT1.out (by have := HLN.out; omega) t true (decide_eq_true ht)
    rw [hst] at HCV2
    have c0V1 : V1.cell? ⟨b, 0, none⟩ = some (.slice ua nu uc) := HV1.out.2.1.cell rfl
    have c1V1 : V1.cell? ⟨b, 1, none⟩ = some (.slice oa no oc) := HV1.out.2.1.cell rfl
    have c2V1 : V1.cell? ⟨b, 2, none⟩ = some (.slice a m c) := HV1.out.2.1.cell rfl
    go_wp2_with fail
    refine HCV2.mono ?_
    rintro e V2 ⟨rfl, hbV2⟩
    have HV2 : Hid (Below w.heap.size w V2 ∧ Blk V2 b 30 [.slice ua nu uc, .slice oa no oc, .slice a m c] ∧ RPt V2 (.slice ua nu uc) (.slice oa no oc) (.slice a m c) R ∧ Blk V2 (b + 1) 30 [.slice none 0 0, .slice none 0 0, .slice none 0 0]) := ⟨below_tr HV1.out.1 hbV2, HV1.out.2.1.below hbV2 HV1.out.2.1.lt, HV1.out.2.2.1.below hbV2, HV1.out.2.2.2.below hbV2 HV1.out.2.2.2.lt⟩
    clear c0V1 c1V1 c2V1
    clear HCV2
    have HC := rrole_is HV2.out.2.2.1 o u
    rw [hso, hsu, hr0] at HC
    go_wp2_with (with_reducible change wpList _ _ _ ({ dst := some 17, op := _, type := _, pos := _, after := _, guard := _ } :: _) _ _; refine Hid.out ?_)
    show wpList _ _ _ _ _ _
    refine wpList_load_want rfl 30 (.tmp 4) rfl b 0 rfl [.slice ua nu uc, .slice oa no oc, .slice a m c] _ (by have := HV2.out.2.1.range 0 3; simpa using this) Try.underlying30 rfl size30 ?_
    simp only [Act.put, List.setIfInBounds_toArray, List.set_cons_zero, List.set_cons_succ]
    go_wp2_with fail
    refine HC.mono ?_
    rintro e V3 ⟨rfl, hb3⟩
    have HV3 : Hid (Below w.heap.size w V3 ∧ Blk V3 b 30 [.slice ua nu uc, .slice oa no oc, .slice a m c] ∧ RPt V3 (.slice ua nu uc) (.slice oa no oc) (.slice a m c) R ∧ Blk V3 (b + 1) 30 [.slice none 0 0, .slice none 0 0, .slice none 0 0]) := ⟨below_tr HV2.out.1 hb3, HV2.out.2.1.below hb3 HV2.out.2.1.lt, HV2.out.2.2.1.below hb3, HV2.out.2.2.2.below hb3 HV2.out.2.2.2.lt⟩
    clear HC hb3 hr0
    by_cases hr : r = 0
    · have b2 : (r == 0) = true := by simp [hr]
      have HF : Hid (q = (R, 111)) := by show _ = _; rw [← HQ.out]; unfold rPut; rw [if_neg (fun h => h (by rw [HLN.out.1]; exact ht)), if_pos (by rw [HR0.out]; exact hr)]
      clear hr ht hL hln hk
      go_wp2_with (with_reducible change wpList _ _ _ ({ dst := some 23, op := _, type := _, pos := _, after := _, guard := _ } :: _) _ _; refine Hid.out ?_)
      show wpList _ _ _ _ _ _
      refine wpList_load_row rfl 30 (.tmp 4) rfl b rfl 30 #[.slice ua nu uc, .slice oa no oc, .slice a m c] (0, 0) _ HV3.out.2.1 Try.underlying30 rfl size30 ?_
      simp only [Act.put, List.setIfInBounds_toArray, List.set_cons_zero, List.set_cons_succ]
      go_wp2_with (with_reducible change wpList _ _ _ ({ dst := none, op := Op.store 30 _ _, type := _, pos := _, after := _, guard := _ } :: _) _ _; refine Hid.out ?_)
      show wpList _ _ _ _ _ _
      refine wpList_store_blk rfl 30 (.tmp 8) (.tmp 23) rfl (b + 1) 0 30 [.slice none 0 0, .slice none 0 0, .slice none 0 0] [.slice ua nu uc, .slice oa no oc, .slice a m c] rfl rfl HV3.out.2.2.2 (by simp) size30 (three HV3.out.2.2.1) ?_
      intro Ve hbe hge
      have HE : Hid (Blk Ve (b + 1) 30 [.slice ua nu uc, .slice oa no oc, .slice a m c] ∧ RPt Ve (.slice ua nu uc) (.slice oa no oc) (.slice a m c) R ∧ Below w.heap.size w Ve) := by
        have hn := HN.out.2.2.2.2
        have hbw : Below w.heap.size w Ve := HV3.out.1.grown hge.out HV3.out.1.size (fun j hj => by cases hj; omega)
        exact ⟨by simpa using hbe.out, rp_other HV3.out.2.2.1 HV3.out.2.2.2 hge.out, hbw⟩
      clear hbe hge
      go_wp2_with fail
      refine rret30u rfl rfl rfl rfl HE.out.1 ?_
      exact ⟨_, _, _, by rw [HF.out]; rfl, by rw [HF.out]; exact HE.out.2⟩
    · have b2 : (r == 0) = false := by simpa using hr
      have HC := rfact_is HV3.out.2.2.1 o t u
      rw [hso, hst, hsu, hk] at HC
      go_wp2_with (with_reducible change wpList _ _ _ ({ dst := some 24, op := _, type := _, pos := _, after := _, guard := _ } :: _) _ _; refine Hid.out ?_)
      show wpList _ _ _ _ _ _
      refine wpList_load_row rfl 30 (.tmp 4) rfl b rfl 30 #[.slice ua nu uc, .slice oa no oc, .slice a m c] (0, 0) _ HV3.out.2.1 Try.underlying30 rfl size30 ?_
      simp only [Act.put, List.setIfInBounds_toArray, List.set_cons_zero, List.set_cons_succ]
      go_wp2_with fail
      refine HC.mono ?_
      rintro e V4 ⟨rfl, hb4⟩
      have HV4 : Hid (Below w.heap.size w V4 ∧ Blk V4 b 30 [.slice ua nu uc, .slice oa no oc, .slice a m c] ∧ RPt V4 (.slice ua nu uc) (.slice oa no oc) (.slice a m c) R ∧ Blk V4 (b + 1) 30 [.slice none 0 0, .slice none 0 0, .slice none 0 0]) := ⟨below_tr HV3.out.1 hb4, HV3.out.2.1.below hb4 HV3.out.2.1.lt, HV3.out.2.2.1.below hb4, HV3.out.2.2.2.below hb4 HV3.out.2.2.2.lt⟩
      clear HC hb4 hk
      by_cases h0 : 0 ≤ k
      · have HF : Hid (q = (R, 110)) := by show _ = _; rw [← HQ.out]; unfold rPut; rw [if_neg (fun h => h (by rw [HLN.out.1]; exact ht)), if_neg (by rw [HR0.out]; exact hr), if_pos (by rw [HK.out]; exact h0)]
        clear hr ht hL hln
        go_wp2_with (with_reducible change wpList _ _ _ ({ dst := some 30, op := _, type := _, pos := _, after := _, guard := _ } :: _) _ _; refine Hid.out ?_)
        show wpList _ _ _ _ _ _
        refine wpList_load_row rfl 30 (.tmp 4) rfl b rfl 30 #[.slice ua nu uc, .slice oa no oc, .slice a m c] (0, 0) _ HV4.out.2.1 Try.underlying30 rfl size30 ?_
        simp only [Act.put, List.setIfInBounds_toArray, List.set_cons_zero, List.set_cons_succ]
        go_wp2_with (with_reducible change wpList _ _ _ ({ dst := none, op := Op.store 30 _ _, type := _, pos := _, after := _, guard := _ } :: _) _ _; refine Hid.out ?_)
        show wpList _ _ _ _ _ _
        refine wpList_store_blk rfl 30 (.tmp 8) (.tmp 30) rfl (b + 1) 0 30 [.slice none 0 0, .slice none 0 0, .slice none 0 0] [.slice ua nu uc, .slice oa no oc, .slice a m c] rfl rfl HV4.out.2.2.2 (by simp) size30 (three HV4.out.2.2.1) ?_
        intro Ve hbe hge
        have HE : Hid (Blk Ve (b + 1) 30 [.slice ua nu uc, .slice oa no oc, .slice a m c] ∧ RPt Ve (.slice ua nu uc) (.slice oa no oc) (.slice a m c) R ∧ Below w.heap.size w Ve) := by
          have hn := HN.out.2.2.2.2
          have hbw : Below w.heap.size w Ve := HV4.out.1.grown hge.out HV4.out.1.size (fun j hj => by cases hj; omega)
          exact ⟨by simpa using hbe.out, rp_other HV4.out.2.2.1 HV4.out.2.2.2 hge.out, hbw⟩
        clear hbe hge
        go_wp2_with fail
        refine rret30u rfl rfl rfl rfl HE.out.1 ?_
        exact ⟨_, _, _, by rw [HF.out]; rfl, by rw [HF.out]; exact HE.out.2⟩
      · have h9 : k < 0 := by omega
        have HF : Hid (q = ({ R with F := R.F ++ [⟨o, t, u, 0⟩] }, 0)) := by show _ = _; rw [← HQ.out]; unfold rPut; rw [if_neg (fun h => h (by rw [HLN.out.1]; exact ht)), if_neg (by rw [HR0.out]; exact hr), if_neg (by rw [HK.out]; exact h0)]
        clear hr ht hL hln h0
        go_wp2_with (with_reducible change wpList _ _ _ ({ dst := some 31, op := _, type := _, pos := _, after := _, guard := _ } :: _) _ _; refine Hid.out ?_)
        show wpList _ _ _ _ _ _
        refine wpList_load_row rfl 30 (.tmp 4) rfl b rfl 30 #[.slice ua nu uc, .slice oa no oc, .slice a m c] (0, 0) _ HV4.out.2.1 Try.underlying30 rfl size30 ?_
        simp only [Act.put, List.setIfInBounds_toArray, List.set_cons_zero, List.set_cons_succ]
        have HC := rwith_is HV4.out.2.2.1 ⟨o, t, u, 0⟩ (by show R.F.length + 1 ≤ _; have := HN.out; omega)
        have HC2 : Calls Try.prog 62 #[.agg #[.slice ua nu uc, .slice oa no oc, .slice a m c], .agg #[hv o, hv t, hv u, iv 0]] V4 _ := HC
        rw [hso, hst, hsu] at HC2
        clear HC
        go_wp2_with fail
        refine HC2.mono ?_
        rintro e V5 ⟨fv2, rfl, hr2, hbf⟩
        have HV5 : Hid (Below w.heap.size w V5 ∧ True ∧ RPt V5 (.slice ua nu uc) (.slice oa no oc) fv2 { R with F := R.F ++ [⟨o, t, u, 0⟩] } ∧ Blk V5 (b + 1) 30 [.slice none 0 0, .slice none 0 0, .slice none 0 0]) := ⟨below_tr HV4.out.1 hbf, trivial, hr2, HV4.out.2.2.2.below hbf HV4.out.2.2.2.lt⟩
        clear HC2 hr2 hbf
        go_wp2_with (with_reducible change wpList _ _ _ ({ dst := none, op := Op.store 30 _ _, type := _, pos := _, after := _, guard := _ } :: _) _ _; refine Hid.out ?_)
        show wpList _ _ _ _ _ _
        refine wpList_store_blk rfl 30 (.tmp 8) (.tmp 36) rfl (b + 1) 0 30 [.slice none 0 0, .slice none 0 0, .slice none 0 0] [.slice ua nu uc, .slice oa no oc, fv2] rfl rfl HV5.out.2.2.2 (by simp) size30 (three HV5.out.2.2.1) ?_
        intro Ve hbe hge
        have HE : Hid (Blk Ve (b + 1) 30 [.slice ua nu uc, .slice oa no oc, fv2] ∧ RPt Ve (.slice ua nu uc) (.slice oa no oc) (fv2) { R with F := R.F ++ [⟨o, t, u, 0⟩] } ∧ Below w.heap.size w Ve) := by
          have hn := HN.out.2.2.2.2
          have hbw : Below w.heap.size w Ve := HV5.out.1.grown hge.out HV5.out.1.size (fun j hj => by cases hj; omega)
          exact ⟨by simpa using hbe.out, rp_other HV5.out.2.2.1 HV5.out.2.2.2 hge.out, hbw⟩
        clear hbe hge
        go_wp2_with fail
        refine rret30u rfl rfl rfl rfl HE.out.1 ?_
        exact ⟨_, _, _, by rw [HF.out]; rfl, by rw [HF.out]; exact HE.out.2⟩
  · have HCV2 := rhas_b HT1.out (by have := HLN.out; omega) t false (decide_eq_false ht)
    rw [hst] at HCV2
    have c0V1 : V1.cell? ⟨b, 0, none⟩ = some (.slice ua nu uc) := HV1.out.2.1.cell rfl
    have c1V1 : V1.cell? ⟨b, 1, none⟩ = some (.slice oa no oc) := HV1.out.2.1.cell rfl
    have c2V1 : V1.cell? ⟨b, 2, none⟩ = some (.slice a m c) := HV1.out.2.1.cell rfl
    go_wp2_with fail
    refine HCV2.mono ?_
    rintro e V2 ⟨rfl, hbV2⟩
    have HV2 : Hid (Below w.heap.size w V2 ∧ Blk V2 b 30 [.slice ua nu uc, .slice oa no oc, .slice a m c] ∧ RPt V2 (.slice ua nu uc) (.slice oa no oc) (.slice a m c) R ∧ Blk V2 (b + 1) 30 [.slice none 0 0, .slice none 0 0, .slice none 0 0]) := ⟨below_tr HV1.out.1 hbV2, HV1.out.2.1.below hbV2 HV1.out.2.1.lt, HV1.out.2.2.1.below hbV2, HV1.out.2.2.2.below hbV2 HV1.out.2.2.2.lt⟩
    clear c0V1 c1V1 c2V1
    clear HCV2
    have HF : Hid (q = (R, 111)) := by show _ = _; rw [← HQ.out]; unfold rPut; rw [if_pos (by rw [HLN.out.1]; exact ht)]
    clear ht hL hln hk hr0
    go_wp2_with (with_reducible change wpList _ _ _ ({ dst := some 23, op := _, type := _, pos := _, after := _, guard := _ } :: _) _ _; refine Hid.out ?_)
    show wpList _ _ _ _ _ _
    refine wpList_load_row rfl 30 (.tmp 4) rfl b rfl 30 #[.slice ua nu uc, .slice oa no oc, .slice a m c] (0, 0) _ HV2.out.2.1 Try.underlying30 rfl size30 ?_
    simp only [Act.put, List.setIfInBounds_toArray, List.set_cons_zero, List.set_cons_succ]
    go_wp2_with (with_reducible change wpList _ _ _ ({ dst := none, op := Op.store 30 _ _, type := _, pos := _, after := _, guard := _ } :: _) _ _; refine Hid.out ?_)
    show wpList _ _ _ _ _ _
    refine wpList_store_blk rfl 30 (.tmp 8) (.tmp 23) rfl (b + 1) 0 30 [.slice none 0 0, .slice none 0 0, .slice none 0 0] [.slice ua nu uc, .slice oa no oc, .slice a m c] rfl rfl HV2.out.2.2.2 (by simp) size30 (three HV2.out.2.2.1) ?_
    intro Ve hbe hge
    have HE : Hid (Blk Ve (b + 1) 30 [.slice ua nu uc, .slice oa no oc, .slice a m c] ∧ RPt Ve (.slice ua nu uc) (.slice oa no oc) (.slice a m c) R ∧ Below w.heap.size w Ve) := by
      have hn := HN.out.2.2.2.2
      have hbw : Below w.heap.size w Ve := HV2.out.1.grown hge.out HV2.out.1.size (fun j hj => by cases hj; omega)
      exact ⟨by simpa using hbe.out, rp_other HV2.out.2.2.1 HV2.out.2.2.2 hge.out, hbw⟩
    clear hbe hge
    go_wp2_with fail
    refine rret30u rfl rfl rfl rfl HE.out.1 ?_
    exact ⟨_, _, _, by rw [HF.out]; rfl, by rw [HF.out]; exact HE.out.2⟩
end Go.Proofs.Ytfickhhfhdhcbaa.Oct

/- Layer 15 (people): the document's people: Join. -/
namespace Go.Proofs.Ytfickhhfhdhcbaa.Oct
open Go.RowKit
set_option linter.unusedSimpArgs false
set_option linter.unusedVariables false

set_option maxRecDepth 100000 in
set_option maxHeartbeats 4000000 in
theorem rjoin_is {w : World} {uv ov fv : Value} {R : Rp} (h : RPt w uv ov fv R) (hF : R.F.length ≤ 990) (o : Hs) (u : Hs) (r : Int) : Calls Try.prog 33 #[.agg #[uv, ov, fv], hv o, hv u, iv r] w (Ro w (rJoin R o u r)) := by
  obtain ⟨m, hm⟩ : ∃ m, R.F.length = m := ⟨_, rfl⟩
  obtain ⟨nu, hnu⟩ : ∃ m, R.U.length = m := ⟨_, rfl⟩
  obtain ⟨no, hno⟩ : ∃ m, R.O.length = m := ⟨_, rfl⟩
  obtain ⟨ua, uc, rfl, _⟩ := h.u
  obtain ⟨oa, oc, rfl, _⟩ := h.o
  obtain ⟨a, c, rfl, _⟩ := h.f
  rw [hm, hnu, hno] at h ⊢
  obtain ⟨so, hso, hlo, hqo⟩ := bs_is o
  obtain ⟨su, hsu, hlu, hqu⟩ := bs_is u
  have HS : Hid (so.toList = o ∧ hv o = .string so ∧ su.toList = u ∧ hv u = .string su ∧ True) := ⟨hlo, hso, hlu, hsu, trivial⟩
  have hz30 := zero30
  obtain ⟨b, hb⟩ : ∃ b, w.heap.size = b := ⟨_, rfl⟩
  obtain ⟨A, hA⟩ : ∃ A, (w.alloc (.cells #[.slice ua nu uc, .slice oa no oc, .slice a m c] 30)).alloc (.cells #[.slice none 0 0, .slice none 0 0, .slice none 0 0] 30) = A := ⟨_, rfl⟩
  have hB : Below w.heap.size w A := by rw [← hA]; exact ((Below.refl _ w).alloc (Nat.le_refl _) _).alloc (by simp) _
  have h2 : Blk A b 30 [.slice ua nu uc, .slice oa no oc, .slice a m c] := by rw [← hA, ← hb]; exact (Blk.new w _ _).alloc _
  have h4 : Blk A (b + 1) 30 [.slice none 0 0, .slice none 0 0, .slice none 0 0] := by
    rw [← hA, ← hb]
    have := Blk.new (w.alloc (.cells #[.slice ua nu uc, .slice oa no oc, .slice a m c] 30)) #[.slice none 0 0, .slice none 0 0, .slice none 0 0] 30
    rwa [World.size_alloc] at this
  have HA0 : Hid (RPt w (.slice ua nu uc) (.slice oa no oc) (.slice a m c) R) := h
  have HA : Hid (Below w.heap.size w A ∧ Blk A b 30 [.slice ua nu uc, .slice oa no oc, .slice a m c] ∧ RPt A (.slice ua nu uc) (.slice oa no oc) (.slice a m c) R ∧ Blk A (b + 1) 30 [.slice none 0 0, .slice none 0 0, .slice none 0 0]) := ⟨hB, h2, h.below hB, h4⟩
  have HN : Hid (R.F.length = m ∧ R.U.length = nu ∧ R.O.length = no ∧ m ≤ 990 ∧ w.heap.size = b) := ⟨hm, hnu, hno, by omega, hb⟩
  have qu : (nu : Int) ≤ 1000 := by have := h.nu; omega
  have qo : (no : Int) ≤ 1000 := by have := h.no; omega
  have qm : (m : Int) ≤ 990 := by omega
  rw [hso, hsu]
  clear h hF hm hnu hno hB h2 h4 hlo hqo hlu hqu
  go_enter Try.func33, Try.ntmps33
  obtain ⟨q, hq⟩ : ∃ q, rJoin R o u r = q := ⟨_, rfl⟩
  have HQ : Hid (rJoin R o u r = q) := hq
  rw [hq]
  clear hq
  by_cases ho : o ∈ R.O
  · have HCV1 := rhas_b HA.out.2.2.1.o HA.out.2.2.1.no o true (decide_eq_true ho)
    rw [hso] at HCV1
    have c0A : A.cell? ⟨b, 0, none⟩ = some (.slice ua nu uc) := HA.out.2.1.cell rfl
    have c1A : A.cell? ⟨b, 1, none⟩ = some (.slice oa no oc) := HA.out.2.1.cell rfl
    have c2A : A.cell? ⟨b, 2, none⟩ = some (.slice a m c) := HA.out.2.1.cell rfl
    go_wp2_with fail
    refine HCV1.mono ?_
    rintro e V1 ⟨rfl, hbV1⟩
    have HV1 : Hid (Below w.heap.size w V1 ∧ Blk V1 b 30 [.slice ua nu uc, .slice oa no oc, .slice a m c] ∧ RPt V1 (.slice ua nu uc) (.slice oa no oc) (.slice a m c) R ∧ Blk V1 (b + 1) 30 [.slice none 0 0, .slice none 0 0, .slice none 0 0]) := ⟨below_tr HA.out.1 hbV1, HA.out.2.1.below hbV1 HA.out.2.1.lt, HA.out.2.2.1.below hbV1, HA.out.2.2.2.below hbV1 HA.out.2.2.2.lt⟩
    clear c0A c1A c2A
    clear HCV1
    clear hA hb
    by_cases hm : u ∈ R.U
    · have HCV2 := rhas_b HV1.out.2.2.1.u HV1.out.2.2.1.nu u true (decide_eq_true hm)
      rw [hsu] at HCV2
      have c0V1 : V1.cell? ⟨b, 0, none⟩ = some (.slice ua nu uc) := HV1.out.2.1.cell rfl
      have c1V1 : V1.cell? ⟨b, 1, none⟩ = some (.slice oa no oc) := HV1.out.2.1.cell rfl
      have c2V1 : V1.cell? ⟨b, 2, none⟩ = some (.slice a m c) := HV1.out.2.1.cell rfl
      go_wp2_with fail
      refine HCV2.mono ?_
      rintro e V2 ⟨rfl, hbV2⟩
      have HV2 : Hid (Below w.heap.size w V2 ∧ Blk V2 b 30 [.slice ua nu uc, .slice oa no oc, .slice a m c] ∧ RPt V2 (.slice ua nu uc) (.slice oa no oc) (.slice a m c) R ∧ Blk V2 (b + 1) 30 [.slice none 0 0, .slice none 0 0, .slice none 0 0]) := ⟨below_tr HV1.out.1 hbV2, HV1.out.2.1.below hbV2 HV1.out.2.1.lt, HV1.out.2.2.1.below hbV2, HV1.out.2.2.2.below hbV2 HV1.out.2.2.2.lt⟩
      clear c0V1 c1V1 c2V1
      clear HCV2
      have c0V2 : V2.cell? ⟨b, 0, none⟩ = some (.slice ua nu uc) := HV2.out.2.1.cell rfl
      have c1V2 : V2.cell? ⟨b, 1, none⟩ = some (.slice oa no oc) := HV2.out.2.1.cell rfl
      have c2V2 : V2.cell? ⟨b, 2, none⟩ = some (.slice a m c) := HV2.out.2.1.cell rfl
      by_cases h1 : r = 1
      · subst h1
        clear c0V2 c1V2 c2V2
        by_cases hl : lastF R.F o u = true
        · have HC := rlast_is HV2.out.2.2.1 (by have := HN.out; omega) o u
          rw [hso, hsu, hl] at HC
          go_wp2_with (with_reducible change wpList _ _ _ ({ dst := some 31, op := _, type := _, pos := _, after := _, guard := _ } :: _) _ _; refine Hid.out ?_)
          show wpList _ _ _ _ _ _
          refine wpList_load_row rfl 30 (.tmp 4) rfl b rfl 30 #[.slice ua nu uc, .slice oa no oc, .slice a m c] (0, 0) _ HV2.out.2.1 Try.underlying30 rfl size30 ?_
          simp only [Act.put, List.setIfInBounds_toArray, List.set_cons_zero, List.set_cons_succ]
          go_wp2_with fail
          refine HC.mono ?_
          rintro e V3 ⟨rfl, hb3⟩
          have HV3 : Hid (Below w.heap.size w V3 ∧ Blk V3 b 30 [.slice ua nu uc, .slice oa no oc, .slice a m c] ∧ RPt V3 (.slice ua nu uc) (.slice oa no oc) (.slice a m c) R ∧ Blk V3 (b + 1) 30 [.slice none 0 0, .slice none 0 0, .slice none 0 0]) := ⟨below_tr HV2.out.1 hb3, HV2.out.2.1.below hb3 HV2.out.2.1.lt, HV2.out.2.2.1.below hb3, HV2.out.2.2.2.below hb3 HV2.out.2.2.2.lt⟩
          clear HC hb3
          have HF : Hid (q = (R, 151)) := by show _ = _; rw [← HQ.out]; unfold rJoin; rw [if_neg (fun h => h ho), if_neg (fun h => h hm), if_neg (fun h => by omega), if_pos ⟨hl, rfl⟩]
          clear hl ho hm
          go_wp2_with (with_reducible change wpList _ _ _ ({ dst := some 39, op := _, type := _, pos := _, after := _, guard := _ } :: _) _ _; refine Hid.out ?_)
          show wpList _ _ _ _ _ _
          refine wpList_load_row rfl 30 (.tmp 4) rfl b rfl 30 #[.slice ua nu uc, .slice oa no oc, .slice a m c] (0, 0) _ HV3.out.2.1 Try.underlying30 rfl size30 ?_
          simp only [Act.put, List.setIfInBounds_toArray, List.set_cons_zero, List.set_cons_succ]
          go_wp2_with (with_reducible change wpList _ _ _ ({ dst := none, op := Op.store 30 _ _, type := _, pos := _, after := _, guard := _ } :: _) _ _; refine Hid.out ?_)
          show wpList _ _ _ _ _ _
          refine wpList_store_blk rfl 30 (.tmp 8) (.tmp 39) rfl (b + 1) 0 30 [.slice none 0 0, .slice none 0 0, .slice none 0 0] [.slice ua nu uc, .slice oa no oc, .slice a m c] rfl rfl HV3.out.2.2.2 (by simp) size30 (three HV3.out.2.2.1) ?_
          intro Ve hbe hge
          have HE : Hid (Blk Ve (b + 1) 30 [.slice ua nu uc, .slice oa no oc, .slice a m c] ∧ RPt Ve (.slice ua nu uc) (.slice oa no oc) (.slice a m c) R ∧ Below w.heap.size w Ve) := by
            have hn := HN.out.2.2.2.2
            have hbw : Below w.heap.size w Ve := HV3.out.1.grown hge.out HV3.out.1.size (fun j hj => by cases hj; omega)
            exact ⟨by simpa using hbe.out, rp_other HV3.out.2.2.1 HV3.out.2.2.2 hge.out, hbw⟩
          clear hbe hge
          go_wp2_with fail
          refine rret30u rfl rfl rfl rfl HE.out.1 ?_
          exact ⟨_, _, _, by rw [HF.out]; rfl, by rw [HF.out]; exact HE.out.2⟩
        · have hl2 : lastF R.F o u = false := by simpa using hl
          have HC := rlast_is HV2.out.2.2.1 (by have := HN.out; omega) o u
          rw [hso, hsu, hl2] at HC
          go_wp2_with (with_reducible change wpList _ _ _ ({ dst := some 31, op := _, type := _, pos := _, after := _, guard := _ } :: _) _ _; refine Hid.out ?_)
          show wpList _ _ _ _ _ _
          refine wpList_load_row rfl 30 (.tmp 4) rfl b rfl 30 #[.slice ua nu uc, .slice oa no oc, .slice a m c] (0, 0) _ HV2.out.2.1 Try.underlying30 rfl size30 ?_
          simp only [Act.put, List.setIfInBounds_toArray, List.set_cons_zero, List.set_cons_succ]
          go_wp2_with fail
          refine HC.mono ?_
          rintro e V3 ⟨rfl, hb3⟩
          have HV3 : Hid (Below w.heap.size w V3 ∧ Blk V3 b 30 [.slice ua nu uc, .slice oa no oc, .slice a m c] ∧ RPt V3 (.slice ua nu uc) (.slice oa no oc) (.slice a m c) R ∧ Blk V3 (b + 1) 30 [.slice none 0 0, .slice none 0 0, .slice none 0 0]) := ⟨below_tr HV2.out.1 hb3, HV2.out.2.1.below hb3 HV2.out.2.1.lt, HV2.out.2.2.1.below hb3, HV2.out.2.2.2.below hb3 HV2.out.2.2.2.lt⟩
          clear HC hb3
          obtain ⟨k, hk⟩ : ∃ k, fct R.F o [] u = k := ⟨_, rfl⟩
          have HK : Hid (fct R.F o [] u = k) := hk
          have HC := rfact_is HV3.out.2.2.1 o [] u
          rw [hso, show hv [] = .string ⟨#[]⟩ from rfl, hsu, hk] at HC
          go_wp2_with (with_reducible change wpList _ _ _ ({ dst := some 40, op := _, type := _, pos := _, after := _, guard := _ } :: _) _ _; refine Hid.out ?_)
          show wpList _ _ _ _ _ _
          refine wpList_load_row rfl 30 (.tmp 4) rfl b rfl 30 #[.slice ua nu uc, .slice oa no oc, .slice a m c] (0, 0) _ HV3.out.2.1 Try.underlying30 rfl size30 ?_
          simp only [Act.put, List.setIfInBounds_toArray, List.set_cons_zero, List.set_cons_succ]
          go_wp2_with fail
          refine HC.mono ?_
          rintro e V4 ⟨rfl, hb4⟩
          have HV4 : Hid (Below w.heap.size w V4 ∧ Blk V4 b 30 [.slice ua nu uc, .slice oa no oc, .slice a m c] ∧ RPt V4 (.slice ua nu uc) (.slice oa no oc) (.slice a m c) R ∧ Blk V4 (b + 1) 30 [.slice none 0 0, .slice none 0 0, .slice none 0 0]) := ⟨below_tr HV3.out.1 hb4, HV3.out.2.1.below hb4 HV3.out.2.1.lt, HV3.out.2.2.1.below hb4, HV3.out.2.2.2.below hb4 HV3.out.2.2.2.lt⟩
          clear HC hb4 hk
          by_cases h0 : 0 ≤ k
          · have HF0 : Hid (∃ (j : Nat) (f : Fc), k = j ∧ R.F[j]? = some f) := by
              rcases fct_cases R.F o [] u with ⟨h5, _⟩ | ⟨j, f, h5, h6, _⟩
              · rw [HK.out] at h5; omega
              · exact ⟨j, f, by rw [← HK.out]; exact h5, h6⟩
            obtain ⟨j, f, rfl, hj⟩ := HF0.out
            have HF : Hid (q = ({ R with F := R.F.eraseIdx j ++ [⟨o, [], u, 1⟩] }, 0)) := by show _ = _; rw [← HQ.out]; unfold rJoin; rw [if_neg (fun h => h ho), if_neg (fun h => h hm), if_neg (fun h => by omega), if_neg (fun h => hl h.1), show joF R.F o u = R.F.eraseIdx j from by unfold joF; rw [if_neg (by rw [HK.out]; omega), HK.out]; rfl]
            have HC := rwithout_is HV4.out.2.2.1 hj
            have HLE : Hid ((R.F.eraseIdx j).length ≤ 990) := by have h1 := List.length_eraseIdx_le R.F j; have h2 := HN.out; show _ ≤ _; omega
            clear hl hl2 ho hm HF0 hj HK
            go_wp2_with (with_reducible change wpList _ _ _ ({ dst := some 46, op := _, type := _, pos := _, after := _, guard := _ } :: _) _ _; refine Hid.out ?_)
            show wpList _ _ _ _ _ _
            refine wpList_load_row rfl 30 (.tmp 4) rfl b rfl 30 #[.slice ua nu uc, .slice oa no oc, .slice a m c] (0, 0) _ HV4.out.2.1 Try.underlying30 rfl size30 ?_
            simp only [Act.put, List.setIfInBounds_toArray, List.set_cons_zero, List.set_cons_succ]
            go_wp2_with fail
            refine HC.mono ?_
            rintro e V5 ⟨fv2, rfl, hr2, hbf⟩
            have HV5 : Hid (Below w.heap.size w V5 ∧ Blk V5 b 30 [.slice ua nu uc, .slice oa no oc, .slice a m c] ∧ RPt V5 (.slice ua nu uc) (.slice oa no oc) fv2 { R with F := R.F.eraseIdx j } ∧ Blk V5 (b + 1) 30 [.slice none 0 0, .slice none 0 0, .slice none 0 0]) := ⟨below_tr HV4.out.1 hbf, HV4.out.2.1.below hbf HV4.out.2.1.lt, hr2, HV4.out.2.2.2.below hbf HV4.out.2.2.2.lt⟩
            clear HC hr2 hbf
            go_wp2_with (with_reducible change wpList _ _ _ ({ dst := none, op := Op.store 30 _ _, type := _, pos := _, after := _, guard := _ } :: _) _ _; refine Hid.out ?_)
            show wpList _ _ _ _ _ _
            refine wpList_store_blk rfl 30 (.tmp 4) (.tmp 48) rfl b 0 30 [.slice ua nu uc, .slice oa no oc, .slice a m c] [.slice ua nu uc, .slice oa no oc, fv2] rfl rfl HV5.out.2.1 (by simp) size30 (three HV5.out.2.2.1) ?_
            intro V6 hb6 hg6
            have HV6 : Hid (Below w.heap.size w V6 ∧ Blk V6 b 30 [.slice ua nu uc, .slice oa no oc, fv2] ∧ RPt V6 (.slice ua nu uc) (.slice oa no oc) fv2 { R with F := R.F.eraseIdx j } ∧ Blk V6 (b + 1) 30 [.slice none 0 0, .slice none 0 0, .slice none 0 0]) := by
              have hn := HN.out.2.2.2.2
              exact ⟨HV5.out.1.grown hg6.out HV5.out.1.size (fun j hj => by cases hj; omega), by simpa using hb6.out, rp_other HV5.out.2.2.1 HV5.out.2.1 hg6.out, HV5.out.2.2.2.kept hg6.out (by simp)⟩
            clear hb6 hg6
            simp only [Act.put, List.setIfInBounds_toArray, List.set_cons_zero, List.set_cons_succ]
            go_wp2_with (with_reducible change wpList _ _ _ ({ dst := some 49, op := _, type := _, pos := _, after := _, guard := _ } :: _) _ _; refine Hid.out ?_)
            show wpList _ _ _ _ _ _
            refine wpList_load_row rfl 30 (.tmp 4) rfl b rfl 30 #[.slice ua nu uc, .slice oa no oc, fv2] (0, 0) _ HV6.out.2.1 Try.underlying30 rfl size30 ?_
            simp only [Act.put, List.setIfInBounds_toArray, List.set_cons_zero, List.set_cons_succ]
            have HC := rwith_is HV6.out.2.2.1 ⟨o, [], u, 1⟩ (by show (R.F.eraseIdx j).length + 1 ≤ _; have := HLE.out; omega)
            have HC2 : Calls Try.prog 62 #[.agg #[.slice ua nu uc, .slice oa no oc, fv2], .agg #[hv o, hv [], hv u, iv 1]] V6 _ := HC
            rw [hso, show hv [] = .string ⟨#[]⟩ from rfl, hsu] at HC2
            clear HC
            go_wp2_with fail
            refine HC2.mono ?_
            rintro e V7 ⟨fv3, rfl, hr2, hbf⟩
            have HV7 : Hid (Below w.heap.size w V7 ∧ True ∧ RPt V7 (.slice ua nu uc) (.slice oa no oc) fv3 { R with F := R.F.eraseIdx j ++ [⟨o, [], u, 1⟩] } ∧ Blk V7 (b + 1) 30 [.slice none 0 0, .slice none 0 0, .slice none 0 0]) := ⟨below_tr HV6.out.1 hbf, trivial, hr2, HV6.out.2.2.2.below hbf HV6.out.2.2.2.lt⟩
            clear HC2 hr2 hbf
            go_wp2_with (with_reducible change wpList _ _ _ ({ dst := none, op := Op.store 30 _ _, type := _, pos := _, after := _, guard := _ } :: _) _ _; refine Hid.out ?_)
            show wpList _ _ _ _ _ _
            refine wpList_store_blk rfl 30 (.tmp 8) (.tmp 54) rfl (b + 1) 0 30 [.slice none 0 0, .slice none 0 0, .slice none 0 0] [.slice ua nu uc, .slice oa no oc, fv3] rfl rfl HV7.out.2.2.2 (by simp) size30 (three HV7.out.2.2.1) ?_
            intro Ve hbe hge
            have HE : Hid (Blk Ve (b + 1) 30 [.slice ua nu uc, .slice oa no oc, fv3] ∧ RPt Ve (.slice ua nu uc) (.slice oa no oc) (fv3) { R with F := R.F.eraseIdx j ++ [⟨o, [], u, 1⟩] } ∧ Below w.heap.size w Ve) := by
              have hn := HN.out.2.2.2.2
              have hbw : Below w.heap.size w Ve := HV7.out.1.grown hge.out HV7.out.1.size (fun j hj => by cases hj; omega)
              exact ⟨by simpa using hbe.out, rp_other HV7.out.2.2.1 HV7.out.2.2.2 hge.out, hbw⟩
            clear hbe hge
            go_wp2_with fail
            refine rret30u rfl rfl rfl rfl HE.out.1 ?_
            exact ⟨_, _, _, by rw [HF.out]; rfl, by rw [HF.out]; exact HE.out.2⟩
          · have h9 : k < 0 := by omega
            have HF : Hid (q = ({ R with F := R.F ++ [⟨o, [], u, 1⟩] }, 0)) := by show _ = _; rw [← HQ.out]; unfold rJoin; rw [if_neg (fun h => h ho), if_neg (fun h => h hm), if_neg (fun h => by omega), if_neg (fun h => hl h.1), show joF R.F o u = R.F from by unfold joF; rw [if_pos (by rw [HK.out]; exact h9)]]
            clear hl hl2 hm ho h0
            go_wp2_with (with_reducible change wpList _ _ _ ({ dst := some 49, op := _, type := _, pos := _, after := _, guard := _ } :: _) _ _; refine Hid.out ?_)
            show wpList _ _ _ _ _ _
            refine wpList_load_row rfl 30 (.tmp 4) rfl b rfl 30 #[.slice ua nu uc, .slice oa no oc, .slice a m c] (0, 0) _ HV4.out.2.1 Try.underlying30 rfl size30 ?_
            simp only [Act.put, List.setIfInBounds_toArray, List.set_cons_zero, List.set_cons_succ]
            have HC := rwith_is HV4.out.2.2.1 ⟨o, [], u, 1⟩ (by show R.F.length + 1 ≤ _; have := HN.out; omega)
            have HC2 : Calls Try.prog 62 #[.agg #[.slice ua nu uc, .slice oa no oc, .slice a m c], .agg #[hv o, hv [], hv u, iv 1]] V4 _ := HC
            rw [hso, show hv [] = .string ⟨#[]⟩ from rfl, hsu] at HC2
            clear HC
            go_wp2_with fail
            refine HC2.mono ?_
            rintro e V6 ⟨fv2, rfl, hr2, hbf⟩
            have HV6 : Hid (Below w.heap.size w V6 ∧ True ∧ RPt V6 (.slice ua nu uc) (.slice oa no oc) fv2 { R with F := R.F ++ [⟨o, [], u, 1⟩] } ∧ Blk V6 (b + 1) 30 [.slice none 0 0, .slice none 0 0, .slice none 0 0]) := ⟨below_tr HV4.out.1 hbf, trivial, hr2, HV4.out.2.2.2.below hbf HV4.out.2.2.2.lt⟩
            clear HC2 hr2 hbf
            go_wp2_with (with_reducible change wpList _ _ _ ({ dst := none, op := Op.store 30 _ _, type := _, pos := _, after := _, guard := _ } :: _) _ _; refine Hid.out ?_)
            show wpList _ _ _ _ _ _
            refine wpList_store_blk rfl 30 (.tmp 8) (.tmp 54) rfl (b + 1) 0 30 [.slice none 0 0, .slice none 0 0, .slice none 0 0] [.slice ua nu uc, .slice oa no oc, fv2] rfl rfl HV6.out.2.2.2 (by simp) size30 (three HV6.out.2.2.1) ?_
            intro Ve hbe hge
            have HE : Hid (Blk Ve (b + 1) 30 [.slice ua nu uc, .slice oa no oc, fv2] ∧ RPt Ve (.slice ua nu uc) (.slice oa no oc) (fv2) { R with F := R.F ++ [⟨o, [], u, 1⟩] } ∧ Below w.heap.size w Ve) := by
              have hn := HN.out.2.2.2.2
              have hbw : Below w.heap.size w Ve := HV6.out.1.grown hge.out HV6.out.1.size (fun j hj => by cases hj; omega)
              exact ⟨by simpa using hbe.out, rp_other HV6.out.2.2.1 HV6.out.2.2.2 hge.out, hbw⟩
            clear hbe hge
            go_wp2_with fail
            refine rret30u rfl rfl rfl rfl HE.out.1 ?_
            exact ⟨_, _, _, by rw [HF.out]; rfl, by rw [HF.out]; exact HE.out.2⟩
      · by_cases h2 : r = 2
        · subst h2
          clear h1
          clear c0V2 c1V2 c2V2
          by_cases hl : lastF R.F o u = true
          · have HC := rlast_is HV2.out.2.2.1 (by have := HN.out; omega) o u
            rw [hso, hsu, hl] at HC
            go_wp2_with (with_reducible change wpList _ _ _ ({ dst := some 31, op := _, type := _, pos := _, after := _, guard := _ } :: _) _ _; refine Hid.out ?_)
            show wpList _ _ _ _ _ _
            refine wpList_load_row rfl 30 (.tmp 4) rfl b rfl 30 #[.slice ua nu uc, .slice oa no oc, .slice a m c] (0, 0) _ HV2.out.2.1 Try.underlying30 rfl size30 ?_
            simp only [Act.put, List.setIfInBounds_toArray, List.set_cons_zero, List.set_cons_succ]
            go_wp2_with fail
            refine HC.mono ?_
            rintro e V3 ⟨rfl, hb3⟩
            have HV3 : Hid (Below w.heap.size w V3 ∧ Blk V3 b 30 [.slice ua nu uc, .slice oa no oc, .slice a m c] ∧ RPt V3 (.slice ua nu uc) (.slice oa no oc) (.slice a m c) R ∧ Blk V3 (b + 1) 30 [.slice none 0 0, .slice none 0 0, .slice none 0 0]) := ⟨below_tr HV2.out.1 hb3, HV2.out.2.1.below hb3 HV2.out.2.1.lt, HV2.out.2.2.1.below hb3, HV2.out.2.2.2.below hb3 HV2.out.2.2.2.lt⟩
            clear HC hb3
            clear hl
            obtain ⟨k, hk⟩ : ∃ k, fct R.F o [] u = k := ⟨_, rfl⟩
            have HK : Hid (fct R.F o [] u = k) := hk
            have HC := rfact_is HV3.out.2.2.1 o [] u
            rw [hso, show hv [] = .string ⟨#[]⟩ from rfl, hsu, hk] at HC
            go_wp2_with (with_reducible change wpList _ _ _ ({ dst := some 40, op := _, type := _, pos := _, after := _, guard := _ } :: _) _ _; refine Hid.out ?_)
            show wpList _ _ _ _ _ _
            refine wpList_load_row rfl 30 (.tmp 4) rfl b rfl 30 #[.slice ua nu uc, .slice oa no oc, .slice a m c] (0, 0) _ HV3.out.2.1 Try.underlying30 rfl size30 ?_
            simp only [Act.put, List.setIfInBounds_toArray, List.set_cons_zero, List.set_cons_succ]
            go_wp2_with fail
            refine HC.mono ?_
            rintro e V4 ⟨rfl, hb4⟩
            have HV4 : Hid (Below w.heap.size w V4 ∧ Blk V4 b 30 [.slice ua nu uc, .slice oa no oc, .slice a m c] ∧ RPt V4 (.slice ua nu uc) (.slice oa no oc) (.slice a m c) R ∧ Blk V4 (b + 1) 30 [.slice none 0 0, .slice none 0 0, .slice none 0 0]) := ⟨below_tr HV3.out.1 hb4, HV3.out.2.1.below hb4 HV3.out.2.1.lt, HV3.out.2.2.1.below hb4, HV3.out.2.2.2.below hb4 HV3.out.2.2.2.lt⟩
            clear HC hb4 hk
            by_cases h0 : 0 ≤ k
            · have HF0 : Hid (∃ (j : Nat) (f : Fc), k = j ∧ R.F[j]? = some f) := by
                rcases fct_cases R.F o [] u with ⟨h5, _⟩ | ⟨j, f, h5, h6, _⟩
                · rw [HK.out] at h5; omega
                · exact ⟨j, f, by rw [← HK.out]; exact h5, h6⟩
              obtain ⟨j, f, rfl, hj⟩ := HF0.out
              have HF : Hid (q = ({ R with F := R.F.eraseIdx j ++ [⟨o, [], u, 2⟩] }, 0)) := by show _ = _; rw [← HQ.out]; unfold rJoin; rw [if_neg (fun h => h ho), if_neg (fun h => h hm), if_neg (fun h => by omega), if_neg (fun h => by have := h.2; omega), show joF R.F o u = R.F.eraseIdx j from by unfold joF; rw [if_neg (by rw [HK.out]; omega), HK.out]; rfl]
              have HC := rwithout_is HV4.out.2.2.1 hj
              have HLE : Hid ((R.F.eraseIdx j).length ≤ 990) := by have h1 := List.length_eraseIdx_le R.F j; have h2 := HN.out; show _ ≤ _; omega
              clear ho hm HF0 hj HK
              go_wp2_with (with_reducible change wpList _ _ _ ({ dst := some 46, op := _, type := _, pos := _, after := _, guard := _ } :: _) _ _; refine Hid.out ?_)
              show wpList _ _ _ _ _ _
              refine wpList_load_row rfl 30 (.tmp 4) rfl b rfl 30 #[.slice ua nu uc, .slice oa no oc, .slice a m c] (0, 0) _ HV4.out.2.1 Try.underlying30 rfl size30 ?_
              simp only [Act.put, List.setIfInBounds_toArray, List.set_cons_zero, List.set_cons_succ]
              go_wp2_with fail
              refine HC.mono ?_
              rintro e V5 ⟨fv2, rfl, hr2, hbf⟩
              have HV5 : Hid (Below w.heap.size w V5 ∧ Blk V5 b 30 [.slice ua nu uc, .slice oa no oc, .slice a m c] ∧ RPt V5 (.slice ua nu uc) (.slice oa no oc) fv2 { R with F := R.F.eraseIdx j } ∧ Blk V5 (b + 1) 30 [.slice none 0 0, .slice none 0 0, .slice none 0 0]) := ⟨below_tr HV4.out.1 hbf, HV4.out.2.1.below hbf HV4.out.2.1.lt, hr2, HV4.out.2.2.2.below hbf HV4.out.2.2.2.lt⟩
              clear HC hr2 hbf
              go_wp2_with (with_reducible change wpList _ _ _ ({ dst := none, op := Op.store 30 _ _, type := _, pos := _, after := _, guard := _ } :: _) _ _; refine Hid.out ?_)
              show wpList _ _ _ _ _ _
              refine wpList_store_blk rfl 30 (.tmp 4) (.tmp 48) rfl b 0 30 [.slice ua nu uc, .slice oa no oc, .slice a m c] [.slice ua nu uc, .slice oa no oc, fv2] rfl rfl HV5.out.2.1 (by simp) size30 (three HV5.out.2.2.1) ?_
              intro V6 hb6 hg6
              have HV6 : Hid (Below w.heap.size w V6 ∧ Blk V6 b 30 [.slice ua nu uc, .slice oa no oc, fv2] ∧ RPt V6 (.slice ua nu uc) (.slice oa no oc) fv2 { R with F := R.F.eraseIdx j } ∧ Blk V6 (b + 1) 30 [.slice none 0 0, .slice none 0 0, .slice none 0 0]) := by
                have hn := HN.out.2.2.2.2
                exact ⟨HV5.out.1.grown hg6.out HV5.out.1.size (fun j hj => by cases hj; omega), by simpa using hb6.out, rp_other HV5.out.2.2.1 HV5.out.2.1 hg6.out, HV5.out.2.2.2.kept hg6.out (by simp)⟩
              clear hb6 hg6
              simp only [Act.put, List.setIfInBounds_toArray, List.set_cons_zero, List.set_cons_succ]
              go_wp2_with (with_reducible change wpList _ _ _ ({ dst := some 49, op := _, type := _, pos := _, after := _, guard := _ } :: _) _ _; refine Hid.out ?_)
              show wpList _ _ _ _ _ _
              refine wpList_load_row rfl 30 (.tmp 4) rfl b rfl 30 #[.slice ua nu uc, .slice oa no oc, fv2] (0, 0) _ HV6.out.2.1 Try.underlying30 rfl size30 ?_
              simp only [Act.put, List.setIfInBounds_toArray, List.set_cons_zero, List.set_cons_succ]
              have HC := rwith_is HV6.out.2.2.1 ⟨o, [], u, 2⟩ (by show (R.F.eraseIdx j).length + 1 ≤ _; have := HLE.out; omega)
              have HC2 : Calls Try.prog 62 #[.agg #[.slice ua nu uc, .slice oa no oc, fv2], .agg #[hv o, hv [], hv u, iv 2]] V6 _ := HC
              rw [hso, show hv [] = .string ⟨#[]⟩ from rfl, hsu] at HC2
              clear HC
              go_wp2_with fail
              refine HC2.mono ?_
              rintro e V7 ⟨fv3, rfl, hr2, hbf⟩
              have HV7 : Hid (Below w.heap.size w V7 ∧ True ∧ RPt V7 (.slice ua nu uc) (.slice oa no oc) fv3 { R with F := R.F.eraseIdx j ++ [⟨o, [], u, 2⟩] } ∧ Blk V7 (b + 1) 30 [.slice none 0 0, .slice none 0 0, .slice none 0 0]) := ⟨below_tr HV6.out.1 hbf, trivial, hr2, HV6.out.2.2.2.below hbf HV6.out.2.2.2.lt⟩
              clear HC2 hr2 hbf
              go_wp2_with (with_reducible change wpList _ _ _ ({ dst := none, op := Op.store 30 _ _, type := _, pos := _, after := _, guard := _ } :: _) _ _; refine Hid.out ?_)
              show wpList _ _ _ _ _ _
              refine wpList_store_blk rfl 30 (.tmp 8) (.tmp 54) rfl (b + 1) 0 30 [.slice none 0 0, .slice none 0 0, .slice none 0 0] [.slice ua nu uc, .slice oa no oc, fv3] rfl rfl HV7.out.2.2.2 (by simp) size30 (three HV7.out.2.2.1) ?_
              intro Ve hbe hge
              have HE : Hid (Blk Ve (b + 1) 30 [.slice ua nu uc, .slice oa no oc, fv3] ∧ RPt Ve (.slice ua nu uc) (.slice oa no oc) (fv3) { R with F := R.F.eraseIdx j ++ [⟨o, [], u, 2⟩] } ∧ Below w.heap.size w Ve) := by
                have hn := HN.out.2.2.2.2
                have hbw : Below w.heap.size w Ve := HV7.out.1.grown hge.out HV7.out.1.size (fun j hj => by cases hj; omega)
                exact ⟨by simpa using hbe.out, rp_other HV7.out.2.2.1 HV7.out.2.2.2 hge.out, hbw⟩
              clear hbe hge
              go_wp2_with fail
              refine rret30u rfl rfl rfl rfl HE.out.1 ?_
              exact ⟨_, _, _, by rw [HF.out]; rfl, by rw [HF.out]; exact HE.out.2⟩
            · have h9 : k < 0 := by omega
              have HF : Hid (q = ({ R with F := R.F ++ [⟨o, [], u, 2⟩] }, 0)) := by show _ = _; rw [← HQ.out]; unfold rJoin; rw [if_neg (fun h => h ho), if_neg (fun h => h hm), if_neg (fun h => by omega), if_neg (fun h => by have := h.2; omega), show joF R.F o u = R.F from by unfold joF; rw [if_pos (by rw [HK.out]; exact h9)]]
              clear hm ho h0
              go_wp2_with (with_reducible change wpList _ _ _ ({ dst := some 49, op := _, type := _, pos := _, after := _, guard := _ } :: _) _ _; refine Hid.out ?_)
              show wpList _ _ _ _ _ _
              refine wpList_load_row rfl 30 (.tmp 4) rfl b rfl 30 #[.slice ua nu uc, .slice oa no oc, .slice a m c] (0, 0) _ HV4.out.2.1 Try.underlying30 rfl size30 ?_
              simp only [Act.put, List.setIfInBounds_toArray, List.set_cons_zero, List.set_cons_succ]
              have HC := rwith_is HV4.out.2.2.1 ⟨o, [], u, 2⟩ (by show R.F.length + 1 ≤ _; have := HN.out; omega)
              have HC2 : Calls Try.prog 62 #[.agg #[.slice ua nu uc, .slice oa no oc, .slice a m c], .agg #[hv o, hv [], hv u, iv 2]] V4 _ := HC
              rw [hso, show hv [] = .string ⟨#[]⟩ from rfl, hsu] at HC2
              clear HC
              go_wp2_with fail
              refine HC2.mono ?_
              rintro e V6 ⟨fv2, rfl, hr2, hbf⟩
              have HV6 : Hid (Below w.heap.size w V6 ∧ True ∧ RPt V6 (.slice ua nu uc) (.slice oa no oc) fv2 { R with F := R.F ++ [⟨o, [], u, 2⟩] } ∧ Blk V6 (b + 1) 30 [.slice none 0 0, .slice none 0 0, .slice none 0 0]) := ⟨below_tr HV4.out.1 hbf, trivial, hr2, HV4.out.2.2.2.below hbf HV4.out.2.2.2.lt⟩
              clear HC2 hr2 hbf
              go_wp2_with (with_reducible change wpList _ _ _ ({ dst := none, op := Op.store 30 _ _, type := _, pos := _, after := _, guard := _ } :: _) _ _; refine Hid.out ?_)
              show wpList _ _ _ _ _ _
              refine wpList_store_blk rfl 30 (.tmp 8) (.tmp 54) rfl (b + 1) 0 30 [.slice none 0 0, .slice none 0 0, .slice none 0 0] [.slice ua nu uc, .slice oa no oc, fv2] rfl rfl HV6.out.2.2.2 (by simp) size30 (three HV6.out.2.2.1) ?_
              intro Ve hbe hge
              have HE : Hid (Blk Ve (b + 1) 30 [.slice ua nu uc, .slice oa no oc, fv2] ∧ RPt Ve (.slice ua nu uc) (.slice oa no oc) (fv2) { R with F := R.F ++ [⟨o, [], u, 2⟩] } ∧ Below w.heap.size w Ve) := by
                have hn := HN.out.2.2.2.2
                have hbw : Below w.heap.size w Ve := HV6.out.1.grown hge.out HV6.out.1.size (fun j hj => by cases hj; omega)
                exact ⟨by simpa using hbe.out, rp_other HV6.out.2.2.1 HV6.out.2.2.2 hge.out, hbw⟩
              clear hbe hge
              go_wp2_with fail
              refine rret30u rfl rfl rfl rfl HE.out.1 ?_
              exact ⟨_, _, _, by rw [HF.out]; rfl, by rw [HF.out]; exact HE.out.2⟩
          · have hl2 : lastF R.F o u = false := by simpa using hl
            have HC := rlast_is HV2.out.2.2.1 (by have := HN.out; omega) o u
            rw [hso, hsu, hl2] at HC
            go_wp2_with (with_reducible change wpList _ _ _ ({ dst := some 31, op := _, type := _, pos := _, after := _, guard := _ } :: _) _ _; refine Hid.out ?_)
            show wpList _ _ _ _ _ _
            refine wpList_load_row rfl 30 (.tmp 4) rfl b rfl 30 #[.slice ua nu uc, .slice oa no oc, .slice a m c] (0, 0) _ HV2.out.2.1 Try.underlying30 rfl size30 ?_
            simp only [Act.put, List.setIfInBounds_toArray, List.set_cons_zero, List.set_cons_succ]
            go_wp2_with fail
            refine HC.mono ?_
            rintro e V3 ⟨rfl, hb3⟩
            have HV3 : Hid (Below w.heap.size w V3 ∧ Blk V3 b 30 [.slice ua nu uc, .slice oa no oc, .slice a m c] ∧ RPt V3 (.slice ua nu uc) (.slice oa no oc) (.slice a m c) R ∧ Blk V3 (b + 1) 30 [.slice none 0 0, .slice none 0 0, .slice none 0 0]) := ⟨below_tr HV2.out.1 hb3, HV2.out.2.1.below hb3 HV2.out.2.1.lt, HV2.out.2.2.1.below hb3, HV2.out.2.2.2.below hb3 HV2.out.2.2.2.lt⟩
            clear HC hb3
            obtain ⟨k, hk⟩ : ∃ k, fct R.F o [] u = k := ⟨_, rfl⟩
            have HK : Hid (fct R.F o [] u = k) := hk
            have HC := rfact_is HV3.out.2.2.1 o [] u
            rw [hso, show hv [] = .string ⟨#[]⟩ from rfl, hsu, hk] at HC
            go_wp2_with (with_reducible change wpList _ _ _ ({ dst := some 40, op := _, type := _, pos := _, after := _, guard := _ } :: _) _ _; refine Hid.out ?_)
            show wpList _ _ _ _ _ _
            refine wpList_load_row rfl 30 (.tmp 4) rfl b rfl 30 #[.slice ua nu uc, .slice oa no oc, .slice a m c] (0, 0) _ HV3.out.2.1 Try.underlying30 rfl size30 ?_
            simp only [Act.put, List.setIfInBounds_toArray, List.set_cons_zero, List.set_cons_succ]
            go_wp2_with fail
            refine HC.mono ?_
            rintro e V4 ⟨rfl, hb4⟩
            have HV4 : Hid (Below w.heap.size w V4 ∧ Blk V4 b 30 [.slice ua nu uc, .slice oa no oc, .slice a m c] ∧ RPt V4 (.slice ua nu uc) (.slice oa no oc) (.slice a m c) R ∧ Blk V4 (b + 1) 30 [.slice none 0 0, .slice none 0 0, .slice none 0 0]) := ⟨below_tr HV3.out.1 hb4, HV3.out.2.1.below hb4 HV3.out.2.1.lt, HV3.out.2.2.1.below hb4, HV3.out.2.2.2.below hb4 HV3.out.2.2.2.lt⟩
            clear HC hb4 hk
            by_cases h0 : 0 ≤ k
            · have HF0 : Hid (∃ (j : Nat) (f : Fc), k = j ∧ R.F[j]? = some f) := by
                rcases fct_cases R.F o [] u with ⟨h5, _⟩ | ⟨j, f, h5, h6, _⟩
                · rw [HK.out] at h5; omega
                · exact ⟨j, f, by rw [← HK.out]; exact h5, h6⟩
              obtain ⟨j, f, rfl, hj⟩ := HF0.out
              have HF : Hid (q = ({ R with F := R.F.eraseIdx j ++ [⟨o, [], u, 2⟩] }, 0)) := by show _ = _; rw [← HQ.out]; unfold rJoin; rw [if_neg (fun h => h ho), if_neg (fun h => h hm), if_neg (fun h => by omega), if_neg (fun h => hl h.1), show joF R.F o u = R.F.eraseIdx j from by unfold joF; rw [if_neg (by rw [HK.out]; omega), HK.out]; rfl]
              have HC := rwithout_is HV4.out.2.2.1 hj
              have HLE : Hid ((R.F.eraseIdx j).length ≤ 990) := by have h1 := List.length_eraseIdx_le R.F j; have h2 := HN.out; show _ ≤ _; omega
              clear hl hl2 ho hm HF0 hj HK
              go_wp2_with (with_reducible change wpList _ _ _ ({ dst := some 46, op := _, type := _, pos := _, after := _, guard := _ } :: _) _ _; refine Hid.out ?_)
              show wpList _ _ _ _ _ _
              refine wpList_load_row rfl 30 (.tmp 4) rfl b rfl 30 #[.slice ua nu uc, .slice oa no oc, .slice a m c] (0, 0) _ HV4.out.2.1 Try.underlying30 rfl size30 ?_
              simp only [Act.put, List.setIfInBounds_toArray, List.set_cons_zero, List.set_cons_succ]
              go_wp2_with fail
              refine HC.mono ?_
              rintro e V5 ⟨fv2, rfl, hr2, hbf⟩
              have HV5 : Hid (Below w.heap.size w V5 ∧ Blk V5 b 30 [.slice ua nu uc, .slice oa no oc, .slice a m c] ∧ RPt V5 (.slice ua nu uc) (.slice oa no oc) fv2 { R with F := R.F.eraseIdx j } ∧ Blk V5 (b + 1) 30 [.slice none 0 0, .slice none 0 0, .slice none 0 0]) := ⟨below_tr HV4.out.1 hbf, HV4.out.2.1.below hbf HV4.out.2.1.lt, hr2, HV4.out.2.2.2.below hbf HV4.out.2.2.2.lt⟩
              clear HC hr2 hbf
              go_wp2_with (with_reducible change wpList _ _ _ ({ dst := none, op := Op.store 30 _ _, type := _, pos := _, after := _, guard := _ } :: _) _ _; refine Hid.out ?_)
              show wpList _ _ _ _ _ _
              refine wpList_store_blk rfl 30 (.tmp 4) (.tmp 48) rfl b 0 30 [.slice ua nu uc, .slice oa no oc, .slice a m c] [.slice ua nu uc, .slice oa no oc, fv2] rfl rfl HV5.out.2.1 (by simp) size30 (three HV5.out.2.2.1) ?_
              intro V6 hb6 hg6
              have HV6 : Hid (Below w.heap.size w V6 ∧ Blk V6 b 30 [.slice ua nu uc, .slice oa no oc, fv2] ∧ RPt V6 (.slice ua nu uc) (.slice oa no oc) fv2 { R with F := R.F.eraseIdx j } ∧ Blk V6 (b + 1) 30 [.slice none 0 0, .slice none 0 0, .slice none 0 0]) := by
                have hn := HN.out.2.2.2.2
                exact ⟨HV5.out.1.grown hg6.out HV5.out.1.size (fun j hj => by cases hj; omega), by simpa using hb6.out, rp_other HV5.out.2.2.1 HV5.out.2.1 hg6.out, HV5.out.2.2.2.kept hg6.out (by simp)⟩
              clear hb6 hg6
              simp only [Act.put, List.setIfInBounds_toArray, List.set_cons_zero, List.set_cons_succ]
              go_wp2_with (with_reducible change wpList _ _ _ ({ dst := some 49, op := _, type := _, pos := _, after := _, guard := _ } :: _) _ _; refine Hid.out ?_)
              show wpList _ _ _ _ _ _
              refine wpList_load_row rfl 30 (.tmp 4) rfl b rfl 30 #[.slice ua nu uc, .slice oa no oc, fv2] (0, 0) _ HV6.out.2.1 Try.underlying30 rfl size30 ?_
              simp only [Act.put, List.setIfInBounds_toArray, List.set_cons_zero, List.set_cons_succ]
              have HC := rwith_is HV6.out.2.2.1 ⟨o, [], u, 2⟩ (by show (R.F.eraseIdx j).length + 1 ≤ _; have := HLE.out; omega)
              have HC2 : Calls Try.prog 62 #[.agg #[.slice ua nu uc, .slice oa no oc, fv2], .agg #[hv o, hv [], hv u, iv 2]] V6 _ := HC
              rw [hso, show hv [] = .string ⟨#[]⟩ from rfl, hsu] at HC2
              clear HC
              go_wp2_with fail
              refine HC2.mono ?_
              rintro e V7 ⟨fv3, rfl, hr2, hbf⟩
              have HV7 : Hid (Below w.heap.size w V7 ∧ True ∧ RPt V7 (.slice ua nu uc) (.slice oa no oc) fv3 { R with F := R.F.eraseIdx j ++ [⟨o, [], u, 2⟩] } ∧ Blk V7 (b + 1) 30 [.slice none 0 0, .slice none 0 0, .slice none 0 0]) := ⟨below_tr HV6.out.1 hbf, trivial, hr2, HV6.out.2.2.2.below hbf HV6.out.2.2.2.lt⟩
              clear HC2 hr2 hbf
              go_wp2_with (with_reducible change wpList _ _ _ ({ dst := none, op := Op.store 30 _ _, type := _, pos := _, after := _, guard := _ } :: _) _ _; refine Hid.out ?_)
              show wpList _ _ _ _ _ _
              refine wpList_store_blk rfl 30 (.tmp 8) (.tmp 54) rfl (b + 1) 0 30 [.slice none 0 0, .slice none 0 0, .slice none 0 0] [.slice ua nu uc, .slice oa no oc, fv3] rfl rfl HV7.out.2.2.2 (by simp) size30 (three HV7.out.2.2.1) ?_
              intro Ve hbe hge
              have HE : Hid (Blk Ve (b + 1) 30 [.slice ua nu uc, .slice oa no oc, fv3] ∧ RPt Ve (.slice ua nu uc) (.slice oa no oc) (fv3) { R with F := R.F.eraseIdx j ++ [⟨o, [], u, 2⟩] } ∧ Below w.heap.size w Ve) := by
                have hn := HN.out.2.2.2.2
                have hbw : Below w.heap.size w Ve := HV7.out.1.grown hge.out HV7.out.1.size (fun j hj => by cases hj; omega)
                exact ⟨by simpa using hbe.out, rp_other HV7.out.2.2.1 HV7.out.2.2.2 hge.out, hbw⟩
              clear hbe hge
              go_wp2_with fail
              refine rret30u rfl rfl rfl rfl HE.out.1 ?_
              exact ⟨_, _, _, by rw [HF.out]; rfl, by rw [HF.out]; exact HE.out.2⟩
            · have h9 : k < 0 := by omega
              have HF : Hid (q = ({ R with F := R.F ++ [⟨o, [], u, 2⟩] }, 0)) := by show _ = _; rw [← HQ.out]; unfold rJoin; rw [if_neg (fun h => h ho), if_neg (fun h => h hm), if_neg (fun h => by omega), if_neg (fun h => hl h.1), show joF R.F o u = R.F from by unfold joF; rw [if_pos (by rw [HK.out]; exact h9)]]
              clear hl hl2 hm ho h0
              go_wp2_with (with_reducible change wpList _ _ _ ({ dst := some 49, op := _, type := _, pos := _, after := _, guard := _ } :: _) _ _; refine Hid.out ?_)
              show wpList _ _ _ _ _ _
              refine wpList_load_row rfl 30 (.tmp 4) rfl b rfl 30 #[.slice ua nu uc, .slice oa no oc, .slice a m c] (0, 0) _ HV4.out.2.1 Try.underlying30 rfl size30 ?_
              simp only [Act.put, List.setIfInBounds_toArray, List.set_cons_zero, List.set_cons_succ]
              have HC := rwith_is HV4.out.2.2.1 ⟨o, [], u, 2⟩ (by show R.F.length + 1 ≤ _; have := HN.out; omega)
              have HC2 : Calls Try.prog 62 #[.agg #[.slice ua nu uc, .slice oa no oc, .slice a m c], .agg #[hv o, hv [], hv u, iv 2]] V4 _ := HC
              rw [hso, show hv [] = .string ⟨#[]⟩ from rfl, hsu] at HC2
              clear HC
              go_wp2_with fail
              refine HC2.mono ?_
              rintro e V6 ⟨fv2, rfl, hr2, hbf⟩
              have HV6 : Hid (Below w.heap.size w V6 ∧ True ∧ RPt V6 (.slice ua nu uc) (.slice oa no oc) fv2 { R with F := R.F ++ [⟨o, [], u, 2⟩] } ∧ Blk V6 (b + 1) 30 [.slice none 0 0, .slice none 0 0, .slice none 0 0]) := ⟨below_tr HV4.out.1 hbf, trivial, hr2, HV4.out.2.2.2.below hbf HV4.out.2.2.2.lt⟩
              clear HC2 hr2 hbf
              go_wp2_with (with_reducible change wpList _ _ _ ({ dst := none, op := Op.store 30 _ _, type := _, pos := _, after := _, guard := _ } :: _) _ _; refine Hid.out ?_)
              show wpList _ _ _ _ _ _
              refine wpList_store_blk rfl 30 (.tmp 8) (.tmp 54) rfl (b + 1) 0 30 [.slice none 0 0, .slice none 0 0, .slice none 0 0] [.slice ua nu uc, .slice oa no oc, fv2] rfl rfl HV6.out.2.2.2 (by simp) size30 (three HV6.out.2.2.1) ?_
              intro Ve hbe hge
              have HE : Hid (Blk Ve (b + 1) 30 [.slice ua nu uc, .slice oa no oc, fv2] ∧ RPt Ve (.slice ua nu uc) (.slice oa no oc) (fv2) { R with F := R.F ++ [⟨o, [], u, 2⟩] } ∧ Below w.heap.size w Ve) := by
                have hn := HN.out.2.2.2.2
                have hbw : Below w.heap.size w Ve := HV6.out.1.grown hge.out HV6.out.1.size (fun j hj => by cases hj; omega)
                exact ⟨by simpa using hbe.out, rp_other HV6.out.2.2.1 HV6.out.2.2.2 hge.out, hbw⟩
              clear hbe hge
              go_wp2_with fail
              refine rret30u rfl rfl rfl rfl HE.out.1 ?_
              exact ⟨_, _, _, by rw [HF.out]; rfl, by rw [HF.out]; exact HE.out.2⟩
        · have b1 : (r != 1) = true := by simpa using h1
          have b2 : (r != 2) = true := by simpa using h2
          have HF : Hid (q = (R, 2)) := by show _ = _; rw [← HQ.out]; unfold rJoin; rw [if_neg (fun h => h ho), if_neg (fun h => h hm), if_pos ⟨h1, h2⟩]
          clear ho hm
          go_wp2_with (with_reducible change wpList _ _ _ ({ dst := some 30, op := _, type := _, pos := _, after := _, guard := _ } :: _) _ _; refine Hid.out ?_)
          show wpList _ _ _ _ _ _
          refine wpList_load_row rfl 30 (.tmp 4) rfl b rfl 30 #[.slice ua nu uc, .slice oa no oc, .slice a m c] (0, 0) _ HV2.out.2.1 Try.underlying30 rfl size30 ?_
          simp only [Act.put, List.setIfInBounds_toArray, List.set_cons_zero, List.set_cons_succ]
          go_wp2_with (with_reducible change wpList _ _ _ ({ dst := none, op := Op.store 30 _ _, type := _, pos := _, after := _, guard := _ } :: _) _ _; refine Hid.out ?_)
          show wpList _ _ _ _ _ _
          refine wpList_store_blk rfl 30 (.tmp 8) (.tmp 30) rfl (b + 1) 0 30 [.slice none 0 0, .slice none 0 0, .slice none 0 0] [.slice ua nu uc, .slice oa no oc, .slice a m c] rfl rfl HV2.out.2.2.2 (by simp) size30 (three HV2.out.2.2.1) ?_
          intro Ve hbe hge
          have HE : Hid (Blk Ve (b + 1) 30 [.slice ua nu uc, .slice oa no oc, .slice a m c] ∧ RPt Ve (.slice ua nu uc) (.slice oa no oc) (.slice a m c) R ∧ Below w.heap.size w Ve) := by
            have hn := HN.out.2.2.2.2
            have hbw : Below w.heap.size w Ve := HV2.out.1.grown hge.out HV2.out.1.size (fun j hj => by cases hj; omega)
            exact ⟨by simpa using hbe.out, rp_other HV2.out.2.2.1 HV2.out.2.2.2 hge.out, hbw⟩
          clear hbe hge
          go_wp2_with fail
          refine rret30u rfl rfl rfl rfl HE.out.1 ?_
          exact ⟨_, _, _, by rw [HF.out]; rfl, by rw [HF.out]; exact HE.out.2⟩
    · have HCV2 := rhas_b HV1.out.2.2.1.u HV1.out.2.2.1.nu u false (decide_eq_false hm)
      rw [hsu] at HCV2
      have c0V1 : V1.cell? ⟨b, 0, none⟩ = some (.slice ua nu uc) := HV1.out.2.1.cell rfl
      have c1V1 : V1.cell? ⟨b, 1, none⟩ = some (.slice oa no oc) := HV1.out.2.1.cell rfl
      have c2V1 : V1.cell? ⟨b, 2, none⟩ = some (.slice a m c) := HV1.out.2.1.cell rfl
      go_wp2_with fail
      refine HCV2.mono ?_
      rintro e V2 ⟨rfl, hbV2⟩
      have HV2 : Hid (Below w.heap.size w V2 ∧ Blk V2 b 30 [.slice ua nu uc, .slice oa no oc, .slice a m c] ∧ RPt V2 (.slice ua nu uc) (.slice oa no oc) (.slice a m c) R ∧ Blk V2 (b + 1) 30 [.slice none 0 0, .slice none 0 0, .slice none 0 0]) := ⟨below_tr HV1.out.1 hbV2, HV1.out.2.1.below hbV2 HV1.out.2.1.lt, HV1.out.2.2.1.below hbV2, HV1.out.2.2.2.below hbV2 HV1.out.2.2.2.lt⟩
      clear c0V1 c1V1 c2V1
      clear HCV2
      have HF : Hid (q = (R, 111)) := by show _ = _; rw [← HQ.out]; unfold rJoin; rw [if_neg (fun h => h ho), if_pos hm]
      clear hm ho
      go_wp2_with (with_reducible change wpList _ _ _ ({ dst := some 23, op := _, type := _, pos := _, after := _, guard := _ } :: _) _ _; refine Hid.out ?_)
      show wpList _ _ _ _ _ _
      refine wpList_load_row rfl 30 (.tmp 4) rfl b rfl 30 #[.slice ua nu uc, .slice oa no oc, .slice a m c] (0, 0) _ HV2.out.2.1 Try.underlying30 rfl size30 ?_
      simp only [Act.put, List.setIfInBounds_toArray, List.set_cons_zero, List.set_cons_succ]
      go_wp2_with (with_reducible change wpList _ _ _ ({ dst := none, op := Op.store 30 _ _, type := _, pos := _, after := _, guard := _ } :: _) _ _; refine Hid.out ?_)
      show wpList _ _ _ _ _ _
      refine wpList_store_blk rfl 30 (.tmp 8) (.tmp 23) rfl (b + 1) 0 30 [.slice none 0 0, .slice none 0 0, .slice none 0 0] [.slice ua nu uc, .slice oa no oc, .slice a m c] rfl rfl HV2.out.2.2.2 (by simp) size30 (three HV2.out.2.2.1) ?_
      intro Ve hbe hge
      have HE : Hid (Blk Ve (b + 1) 30 [.slice ua nu uc, .slice oa no oc, .slice a m c] ∧ RPt Ve (.slice ua nu uc) (.slice oa no oc) (.slice a m c) R ∧ Below w.heap.size w Ve) := by
        have hn := HN.out.2.2.2.2
        have hbw : Below w.heap.size w Ve := HV2.out.1.grown hge.out HV2.out.1.size (fun j hj => by cases hj; omega)
        exact ⟨by simpa using hbe.out, rp_other HV2.out.2.2.1 HV2.out.2.2.2 hge.out, hbw⟩
      clear hbe hge
      go_wp2_with fail
      refine rret30u rfl rfl rfl rfl HE.out.1 ?_
      exact ⟨_, _, _, by rw [HF.out]; rfl, by rw [HF.out]; exact HE.out.2⟩
  · have HCV1 := rhas_b HA.out.2.2.1.o HA.out.2.2.1.no o false (decide_eq_false ho)
    rw [hso] at HCV1
    have c0A : A.cell? ⟨b, 0, none⟩ = some (.slice ua nu uc) := HA.out.2.1.cell rfl
    have c1A : A.cell? ⟨b, 1, none⟩ = some (.slice oa no oc) := HA.out.2.1.cell rfl
    have c2A : A.cell? ⟨b, 2, none⟩ = some (.slice a m c) := HA.out.2.1.cell rfl
    go_wp2_with fail
    refine HCV1.mono ?_
    rintro e V1 ⟨rfl, hbV1⟩
    have HV1 : Hid (Below w.heap.size w V1 ∧ Blk V1 b 30 [.slice ua nu uc, .slice oa no oc, .slice a m c] ∧ RPt V1 (.slice ua nu uc) (.slice oa no oc) (.slice a m c) R ∧ Blk V1 (b + 1) 30 [.slice none 0 0, .slice none 0 0, .slice none 0 0]) := ⟨below_tr HA.out.1 hbV1, HA.out.2.1.below hbV1 HA.out.2.1.lt, HA.out.2.2.1.below hbV1, HA.out.2.2.2.below hbV1 HA.out.2.2.2.lt⟩
    clear c0A c1A c2A
    clear HCV1
    clear hA hb
    have HF : Hid (q = (R, 111)) := by show _ = _; rw [← HQ.out]; unfold rJoin; rw [if_pos ho]
    clear ho
    go_wp2_with (with_reducible change wpList _ _ _ ({ dst := some 23, op := _, type := _, pos := _, after := _, guard := _ } :: _) _ _; refine Hid.out ?_)
    show wpList _ _ _ _ _ _
    refine wpList_load_row rfl 30 (.tmp 4) rfl b rfl 30 #[.slice ua nu uc, .slice oa no oc, .slice a m c] (0, 0) _ HV1.out.2.1 Try.underlying30 rfl size30 ?_
    simp only [Act.put, List.setIfInBounds_toArray, List.set_cons_zero, List.set_cons_succ]
    go_wp2_with (with_reducible change wpList _ _ _ ({ dst := none, op := Op.store 30 _ _, type := _, pos := _, after := _, guard := _ } :: _) _ _; refine Hid.out ?_)
    show wpList _ _ _ _ _ _
    refine wpList_store_blk rfl 30 (.tmp 8) (.tmp 23) rfl (b + 1) 0 30 [.slice none 0 0, .slice none 0 0, .slice none 0 0] [.slice ua nu uc, .slice oa no oc, .slice a m c] rfl rfl HV1.out.2.2.2 (by simp) size30 (three HV1.out.2.2.1) ?_
    intro Ve hbe hge
    have HE : Hid (Blk Ve (b + 1) 30 [.slice ua nu uc, .slice oa no oc, .slice a m c] ∧ RPt Ve (.slice ua nu uc) (.slice oa no oc) (.slice a m c) R ∧ Below w.heap.size w Ve) := by
      have hn := HN.out.2.2.2.2
      have hbw : Below w.heap.size w Ve := HV1.out.1.grown hge.out HV1.out.1.size (fun j hj => by cases hj; omega)
      exact ⟨by simpa using hbe.out, rp_other HV1.out.2.2.1 HV1.out.2.2.2 hge.out, hbw⟩
    clear hbe hge
    go_wp2_with fail
    refine rret30u rfl rfl rfl rfl HE.out.1 ?_
    exact ⟨_, _, _, by rw [HF.out]; rfl, by rw [HF.out]; exact HE.out.2⟩
end Go.Proofs.Ytfickhhfhdhcbaa.Oct

/- Layer 15 (people): the document's people: Leave. -/
namespace Go.Proofs.Ytfickhhfhdhcbaa.Oct
open Go.RowKit
set_option linter.unusedSimpArgs false
set_option linter.unusedVariables false

theorem wpList_bs {ops : Array Oper} {rest : List Oper} {o : Oper} {a : Act} {w : World} {Q : Exit → Act → World → Prop} (hg : o.guard = none) (t : TypeId) (x : Operand) (u : Value) (hop : o.op = .buildSlice t 1 #[(0, x)]) (hx : a.eval x = u) {v : Value} {w' : World} (hrun : (Instr.buildSlice t 1 #[(0, u)]).run Try.prog w = .ok v w')
    (hk : wpList Try.prog ops Q rest (a.put o.dst v) w') : wpList Try.prog ops Q (o :: rest) a w := by
  refine wpList_plain hg fun K hK => ?_
  unfold Oper.wp execOp
  simp [hop, hx, hrun, Result.andThen]
  exact hK _ _ hk
theorem wpList_append_fc {ops : Array Oper} {rest : List Oper} {o : Oper} {a : Act} {Q : Exit → Act → World → Prop} (hgd : o.guard = none) (s x : Operand)
    (hop : o.op = .call { callee := .builtin .append, args := #[s, x], argTypes := #[28, 28] }) (w : World) (B : Nat) (v : Value) (n : Nat) (cs : List Value) (h : w.ownsRow B 75 4 v n cs) (ao : Option Addr) (q c : Nat) (qs : List Value) (hsv : a.eval s = v) (hx : a.eval x = .slice ao q c) (ho : Rx w ao q 4 qs) (hB : B ≤ w.heap.size) (hn : n + q ≤ 1000000)
    (hk : ∀ v' w', Hid (w'.ownsRow B 75 4 v' (n + q) (cs ++ qs)) → Hid (Below B w w') → wpList Try.prog ops Q rest (a.put o.dst v') w') : wpList Try.prog ops Q (o :: rest) a w := by
  obtain ⟨i0, z, e1, e2, e3, e4, e5⟩ := info75
  refine wpList_plain hgd fun K hK => ?_
  obtain ⟨v', w', hr, h2, h3, _⟩ := run_append_g w 28 o.type 75 i0 z 4 B Try.underlying28 e1 e2 e3 e4 e5 (by omega) v n cs h ao q c qs ho hB hn
  unfold Oper.wp execOp
  simp only [hop, resolve, invoke, builtin, Sem.run_bind, Sem.run_pure, Result.andThen_ok, List.map_toArray, List.map_cons, List.map_nil, hsv, hx, hr]
  refine hK _ _ (hk v' w' h2 ⟨h3.os, h3.tape, h3.output, h3.size, fun k hk => h3.block k (by omega) fun e => ?_⟩)
  have := (h.lt k e.symm).1
  omega
theorem size75 : (Try.prog.info? 75).map (·.size) = some 4 := by kernel_rfl
theorem fact_range {w : World} {g n c i : Nat} {F : List Fc} {f : Fc} (h : SV w (.slice (some ⟨g, 0, none⟩) n c) n 4 (fcC F)) (hf : F[i]? = some f) : w.rangeAt g (i * 4) f.cells := by
  obtain ⟨a', c', e, h1, h2, h3, h4, h5⟩ := h
  cases e
  rcases h5 with ⟨e, _⟩ | ⟨g', e, hg, hc⟩
  · cases e
  · cases e
    exact fun j u hu => hc (i * 4 + j) u (flatN (f := Fc.cells) (fun _ => rfl) hf j u hu)
theorem cells_one (f : Fc) : ∀ u ∈ f.cells, u.oneCell' = true := by
  intro u hu
  have := fcC_one [f]
  exact this u (by simpa [fcC] using hu)
theorem filt_snoc {F : List Fc} {i : Nat} {f : Fc} (p : Fc → Bool) (h : F[i]? = some f) : fcC ((F.take (i + 1)).filter p) = fcC ((F.take i).filter p) ++ (if p f = true then f.cells else []) := by
  rw [take_snoc h, List.filter_append, fcC_app]
  congr 1
  by_cases e : p f = true
  · simp [e, fcC]
  · simp [e, fcC]
set_option maxRecDepth 100000 in
set_option maxHeartbeats 4000000 in
theorem rleave_is {w : World} {uv ov fv : Value} {R : Rp} (h : RPt w uv ov fv R) (hF : R.F.length ≤ 990) (o : Hs) (u : Hs) : Calls Try.prog 34 #[.agg #[uv, ov, fv], hv o, hv u] w (Ro w (rLeave R o u)) := by
  obtain ⟨m, hm⟩ : ∃ m, R.F.length = m := ⟨_, rfl⟩
  obtain ⟨nu, hnu⟩ : ∃ m, R.U.length = m := ⟨_, rfl⟩
  obtain ⟨no, hno⟩ : ∃ m, R.O.length = m := ⟨_, rfl⟩
  obtain ⟨ua, uc, rfl, _⟩ := h.u
  obtain ⟨oa, oc, rfl, _⟩ := h.o
  obtain ⟨a, c, rfl, _⟩ := h.f
  rw [hm, hnu, hno] at h ⊢
  obtain ⟨so, hso, hlo, hqo⟩ := bs_is o
  obtain ⟨su, hsu, hlu, hqu⟩ := bs_is u
  have HS : Hid (so.toList = o ∧ hv o = .string so ∧ su.toList = u ∧ hv u = .string su ∧ True) := ⟨hlo, hso, hlu, hsu, trivial⟩
  have hz30 := zero30
  obtain ⟨b, hb⟩ : ∃ b, w.heap.size = b := ⟨_, rfl⟩
  obtain ⟨A, hA⟩ : ∃ A, (w.alloc (.cells #[.slice ua nu uc, .slice oa no oc, .slice a m c] 30)).alloc (.cells #[.slice none 0 0, .slice none 0 0, .slice none 0 0] 30) = A := ⟨_, rfl⟩
  have hB : Below w.heap.size w A := by rw [← hA]; exact ((Below.refl _ w).alloc (Nat.le_refl _) _).alloc (by simp) _
  have h2 : Blk A b 30 [.slice ua nu uc, .slice oa no oc, .slice a m c] := by rw [← hA, ← hb]; exact (Blk.new w _ _).alloc _
  have h4 : Blk A (b + 1) 30 [.slice none 0 0, .slice none 0 0, .slice none 0 0] := by
    rw [← hA, ← hb]
    have := Blk.new (w.alloc (.cells #[.slice ua nu uc, .slice oa no oc, .slice a m c] 30)) #[.slice none 0 0, .slice none 0 0, .slice none 0 0] 30
    rwa [World.size_alloc] at this
  have HA0 : Hid (RPt w (.slice ua nu uc) (.slice oa no oc) (.slice a m c) R) := h
  have HA : Hid (Below w.heap.size w A ∧ Blk A b 30 [.slice ua nu uc, .slice oa no oc, .slice a m c] ∧ RPt A (.slice ua nu uc) (.slice oa no oc) (.slice a m c) R ∧ Blk A (b + 1) 30 [.slice none 0 0, .slice none 0 0, .slice none 0 0]) := ⟨hB, h2, h.below hB, h4⟩
  have HN : Hid (R.F.length = m ∧ R.U.length = nu ∧ R.O.length = no ∧ m ≤ 990 ∧ w.heap.size = b) := ⟨hm, hnu, hno, by omega, hb⟩
  have qu : (nu : Int) ≤ 1000 := by have := h.nu; omega
  have qo : (no : Int) ≤ 1000 := by have := h.no; omega
  have qm : (m : Int) ≤ 990 := by omega
  rw [hso, hsu]
  clear h hF hm hnu hno hB h2 h4 hlo hqo hlu hqu
  go_enter Try.func34, Try.ntmps34
  obtain ⟨q, hq⟩ : ∃ q, rLeave R o u = q := ⟨_, rfl⟩
  have HQ : Hid (rLeave R o u = q) := hq
  rw [hq]
  clear hq
  obtain ⟨r, hr0⟩ : ∃ k, roleF R.F o u = k := ⟨_, rfl⟩
  have HR0 : Hid (roleF R.F o u = r) := hr0
  have HC := rrole_is HA.out.2.2.1 o u
  rw [hso, hsu, hr0] at HC
  go_wp2_with (with_reducible change wpList _ _ _ ({ dst := some 10, op := _, type := _, pos := _, after := _, guard := _ } :: _) _ _; refine Hid.out ?_)
  show wpList _ _ _ _ _ _
  refine wpList_load_row rfl 30 (.tmp 3) rfl b rfl 30 #[.slice ua nu uc, .slice oa no oc, .slice a m c] (0, 0) _ HA.out.2.1 Try.underlying30 rfl size30 ?_
  simp only [Act.put, List.setIfInBounds_toArray, List.set_cons_zero, List.set_cons_succ]
  go_wp2_with fail
  refine HC.mono ?_
  rintro e V1 ⟨rfl, hb1⟩
  have HV1 : Hid (Below w.heap.size w V1 ∧ Blk V1 b 30 [.slice ua nu uc, .slice oa no oc, .slice a m c] ∧ RPt V1 (.slice ua nu uc) (.slice oa no oc) (.slice a m c) R ∧ Blk V1 (b + 1) 30 [.slice none 0 0, .slice none 0 0, .slice none 0 0]) := ⟨below_tr HA.out.1 hb1, HA.out.2.1.below hb1 HA.out.2.1.lt, HA.out.2.2.1.below hb1, HA.out.2.2.2.below hb1 HA.out.2.2.2.lt⟩
  clear HC hb1 hr0 hA hb
  by_cases hr : r = 0
  · have b2 : (r == 0) = true := by simp [hr]
    have HF : Hid (q = (R, 111)) := by show _ = _; rw [← HQ.out]; unfold rLeave; rw [if_pos (by rw [HR0.out]; exact hr)]
    clear hr
    go_wp2_with (with_reducible change wpList _ _ _ ({ dst := some 15, op := _, type := _, pos := _, after := _, guard := _ } :: _) _ _; refine Hid.out ?_)
    show wpList _ _ _ _ _ _
    refine wpList_load_row rfl 30 (.tmp 3) rfl b rfl 30 #[.slice ua nu uc, .slice oa no oc, .slice a m c] (0, 0) _ HV1.out.2.1 Try.underlying30 rfl size30 ?_
    simp only [Act.put, List.setIfInBounds_toArray, List.set_cons_zero, List.set_cons_succ]
    go_wp2_with (with_reducible change wpList _ _ _ ({ dst := none, op := Op.store 30 _ _, type := _, pos := _, after := _, guard := _ } :: _) _ _; refine Hid.out ?_)
    show wpList _ _ _ _ _ _
    refine wpList_store_blk rfl 30 (.tmp 6) (.tmp 15) rfl (b + 1) 0 30 [.slice none 0 0, .slice none 0 0, .slice none 0 0] [.slice ua nu uc, .slice oa no oc, .slice a m c] rfl rfl HV1.out.2.2.2 (by simp) size30 (three HV1.out.2.2.1) ?_
    intro Ve hbe hge
    have HE : Hid (Blk Ve (b + 1) 30 [.slice ua nu uc, .slice oa no oc, .slice a m c] ∧ RPt Ve (.slice ua nu uc) (.slice oa no oc) (.slice a m c) R ∧ Below w.heap.size w Ve) := by
      have hn := HN.out.2.2.2.2
      have hbw : Below w.heap.size w Ve := HV1.out.1.grown hge.out HV1.out.1.size (fun j hj => by cases hj; omega)
      exact ⟨by simpa using hbe.out, rp_other HV1.out.2.2.1 HV1.out.2.2.2 hge.out, hbw⟩
    clear hbe hge
    go_wp2_with fail
    refine rret30u rfl rfl rfl rfl HE.out.1 ?_
    exact ⟨_, _, _, by rw [HF.out]; rfl, by rw [HF.out]; exact HE.out.2⟩
  · have b2 : (r == 0) = false := by simpa using hr
    by_cases hl : lastF R.F o u = true
    · have HC := rlast_is HV1.out.2.2.1 (by have := HN.out; omega) o u
      rw [hso, hsu, hl] at HC
      go_wp2_with (with_reducible change wpList _ _ _ ({ dst := some 16, op := _, type := _, pos := _, after := _, guard := _ } :: _) _ _; refine Hid.out ?_)
      show wpList _ _ _ _ _ _
      refine wpList_load_row rfl 30 (.tmp 3) rfl b rfl 30 #[.slice ua nu uc, .slice oa no oc, .slice a m c] (0, 0) _ HV1.out.2.1 Try.underlying30 rfl size30 ?_
      simp only [Act.put, List.setIfInBounds_toArray, List.set_cons_zero, List.set_cons_succ]
      go_wp2_with fail
      refine HC.mono ?_
      rintro e V2 ⟨rfl, hb2⟩
      have HV2 : Hid (Below w.heap.size w V2 ∧ Blk V2 b 30 [.slice ua nu uc, .slice oa no oc, .slice a m c] ∧ RPt V2 (.slice ua nu uc) (.slice oa no oc) (.slice a m c) R ∧ Blk V2 (b + 1) 30 [.slice none 0 0, .slice none 0 0, .slice none 0 0]) := ⟨below_tr HV1.out.1 hb2, HV1.out.2.1.below hb2 HV1.out.2.1.lt, HV1.out.2.2.1.below hb2, HV1.out.2.2.2.below hb2 HV1.out.2.2.2.lt⟩
      clear HC hb2
      have HF : Hid (q = (R, 151)) := by show _ = _; rw [← HQ.out]; unfold rLeave; rw [if_neg (by rw [HR0.out]; exact hr), if_pos hl]
      clear hr hl
      go_wp2_with (with_reducible change wpList _ _ _ ({ dst := some 20, op := _, type := _, pos := _, after := _, guard := _ } :: _) _ _; refine Hid.out ?_)
      show wpList _ _ _ _ _ _
      refine wpList_load_row rfl 30 (.tmp 3) rfl b rfl 30 #[.slice ua nu uc, .slice oa no oc, .slice a m c] (0, 0) _ HV2.out.2.1 Try.underlying30 rfl size30 ?_
      simp only [Act.put, List.setIfInBounds_toArray, List.set_cons_zero, List.set_cons_succ]
      go_wp2_with (with_reducible change wpList _ _ _ ({ dst := none, op := Op.store 30 _ _, type := _, pos := _, after := _, guard := _ } :: _) _ _; refine Hid.out ?_)
      show wpList _ _ _ _ _ _
      refine wpList_store_blk rfl 30 (.tmp 6) (.tmp 20) rfl (b + 1) 0 30 [.slice none 0 0, .slice none 0 0, .slice none 0 0] [.slice ua nu uc, .slice oa no oc, .slice a m c] rfl rfl HV2.out.2.2.2 (by simp) size30 (three HV2.out.2.2.1) ?_
      intro Ve hbe hge
      have HE : Hid (Blk Ve (b + 1) 30 [.slice ua nu uc, .slice oa no oc, .slice a m c] ∧ RPt Ve (.slice ua nu uc) (.slice oa no oc) (.slice a m c) R ∧ Below w.heap.size w Ve) := by
        have hn := HN.out.2.2.2.2
        have hbw : Below w.heap.size w Ve := HV2.out.1.grown hge.out HV2.out.1.size (fun j hj => by cases hj; omega)
        exact ⟨by simpa using hbe.out, rp_other HV2.out.2.2.1 HV2.out.2.2.2 hge.out, hbw⟩
      clear hbe hge
      go_wp2_with fail
      refine rret30u rfl rfl rfl rfl HE.out.1 ?_
      exact ⟨_, _, _, by rw [HF.out]; rfl, by rw [HF.out]; exact HE.out.2⟩
    · have hl2 : lastF R.F o u = false := by simpa using hl
      have HC := rlast_is HV1.out.2.2.1 (by have := HN.out; omega) o u
      rw [hso, hsu, hl2] at HC
      go_wp2_with (with_reducible change wpList _ _ _ ({ dst := some 16, op := _, type := _, pos := _, after := _, guard := _ } :: _) _ _; refine Hid.out ?_)
      show wpList _ _ _ _ _ _
      refine wpList_load_row rfl 30 (.tmp 3) rfl b rfl 30 #[.slice ua nu uc, .slice oa no oc, .slice a m c] (0, 0) _ HV1.out.2.1 Try.underlying30 rfl size30 ?_
      simp only [Act.put, List.setIfInBounds_toArray, List.set_cons_zero, List.set_cons_succ]
      go_wp2_with fail
      refine HC.mono ?_
      rintro e V2 ⟨rfl, hb2⟩
      have HV2 : Hid (Below w.heap.size w V2 ∧ Blk V2 b 30 [.slice ua nu uc, .slice oa no oc, .slice a m c] ∧ RPt V2 (.slice ua nu uc) (.slice oa no oc) (.slice a m c) R ∧ Blk V2 (b + 1) 30 [.slice none 0 0, .slice none 0 0, .slice none 0 0]) := ⟨below_tr HV1.out.1 hb2, HV1.out.2.1.below hb2 HV1.out.2.1.lt, HV1.out.2.2.1.below hb2, HV1.out.2.2.2.below hb2 HV1.out.2.2.2.lt⟩
      clear HC hb2
      have HF : Hid (q = ({ R with F := R.F.filter (fun f => f.o != o || f.u != u) }, 0)) := by show _ = _; rw [← HQ.out]; unfold rLeave; rw [if_neg (by rw [HR0.out]; exact hr), if_neg hl]
      clear hr hl hl2
      have c0V2 : V2.cell? ⟨b, 0, none⟩ = some (.slice ua nu uc) := HV2.out.2.1.cell rfl
      have c1V2 : V2.cell? ⟨b, 1, none⟩ = some (.slice oa no oc) := HV2.out.2.1.cell rfl
      have c2V2 : V2.cell? ⟨b, 2, none⟩ = some (.slice a m c) := HV2.out.2.1.cell rfl
      go_wp2
      go_loopw [9, 8] (fun x9 v W => ∃ i k : Nat, x9 = iv i ∧ Hid (i ≤ m ∧ k ≤ i ∧ Below V2.heap.size V2 W ∧ W.ownsRow V2.heap.size 75 4 v k (fcC ((R.F.take i).filter (fun f => f.o != o || f.u != u))))) (fun x9 _ _ => m - (intOf x9).toNat)
      case atStart => exact ⟨0, 0, rfl, Nat.zero_le _, Nat.le_refl _, Below.refl _ _, ⟨by simp [fcC], .inl ⟨rfl, rfl⟩⟩⟩
      case round =>
        obtain ⟨i, k, rfl, HI⟩ := hrel
        have cb : wr.cell? ⟨b, 2, none⟩ = some (.slice a m c) := (HV2.out.2.1.below HI.out.2.2.1 HV2.out.2.1.lt).cell rfl
        by_cases hi : i = m
        · have q1 : (m : Int) ≤ (i : Int) := by omega
          have HOW : Hid (wr.ownsRow V2.heap.size 75 4 u8 k (fcC (R.F.filter (fun f => f.o != o || f.u != u))) ∧ Below w.heap.size w wr ∧ Blk wr b 30 [.slice ua nu uc, .slice oa no oc, .slice a m c] ∧ Blk wr (b + 1) 30 [.slice none 0 0, .slice none 0 0, .slice none 0 0]) := by
            have h1 := HI.out.2.2.2
            rw [List.take_of_length_le (by have := HN.out; omega)] at h1
            exact ⟨h1, below_tr HV2.out.1 HI.out.2.2.1, HV2.out.2.1.below HI.out.2.2.1 HV2.out.2.1.lt, HV2.out.2.2.2.below HI.out.2.2.1 HV2.out.2.2.2.lt⟩
          have HRP : Hid (RPt wr (.slice ua nu uc) (.slice oa no oc) u8 { R with F := R.F.filter (fun f => f.o != o || f.u != u) }) := by
            have h0 := HV2.out.2.2.1.below HI.out.2.2.1
            have hk : (R.F.filter (fun f => f.o != o || f.u != u)).length = k := by have := HOW.out.1.1; rw [fcC_len] at this; omega
            refine ⟨h0.u, h0.o, ?_, h0.nu, h0.no, ?_⟩
            · rw [show ({ R with F := R.F.filter (fun f => f.o != o || f.u != u) } : Rp).F.length = k from hk]
              exact SV.own HOW.out.1 (fcC_one _)
            · show (R.F.filter (fun f => f.o != o || f.u != u)).length ≤ _
              have := HI.out; have := HN.out; omega
          clear hi
          go_wp2_with (with_reducible change wpList _ _ _ ({ dst := none, op := Op.store 28 _ _, type := _, pos := _, after := _, guard := _ } :: _) _ _; refine Hid.out ?_)
          show wpList _ _ _ _ _ _
          refine wpList_st1 rfl 28 (.tmp 55) (.tmp 54) rfl b 2 u8 30 [.slice ua nu uc, .slice oa no oc, .slice a m c] rfl rfl HOW.out.2.2.1 (by simp) size28 (own_slice HOW.out.1).1 (own_slice HOW.out.1).2 ?_
          intro V4 hb4 hg4
          have HV4 : Hid (Below w.heap.size w V4 ∧ Blk V4 b 30 [.slice ua nu uc, .slice oa no oc, u8] ∧ RPt V4 (.slice ua nu uc) (.slice oa no oc) u8 { R with F := R.F.filter (fun f => f.o != o || f.u != u) } ∧ Blk V4 (b + 1) 30 [.slice none 0 0, .slice none 0 0, .slice none 0 0]) := by
            have hn := HN.out.2.2.2.2
            exact ⟨HOW.out.2.1.grown hg4.out HOW.out.2.1.size (fun j hj => by cases hj; omega), by simpa using hb4.out, rp_other HRP.out HOW.out.2.2.1 hg4.out, HOW.out.2.2.2.kept hg4.out (by simp)⟩
          clear hb4 hg4
          simp only [Act.put, List.setIfInBounds_toArray, List.set_cons_zero, List.set_cons_succ]
          go_wp2_with (with_reducible change wpList _ _ _ ({ dst := some 56, op := _, type := _, pos := _, after := _, guard := _ } :: _) _ _; refine Hid.out ?_)
          show wpList _ _ _ _ _ _
          refine wpList_load_row rfl 30 (.tmp 3) rfl b rfl 30 #[.slice ua nu uc, .slice oa no oc, u8] (0, 0) _ HV4.out.2.1 Try.underlying30 rfl size30 ?_
          simp only [Act.put, List.setIfInBounds_toArray, List.set_cons_zero, List.set_cons_succ]
          go_wp2_with (with_reducible change wpList _ _ _ ({ dst := none, op := Op.store 30 _ _, type := _, pos := _, after := _, guard := _ } :: _) _ _; refine Hid.out ?_)
          show wpList _ _ _ _ _ _
          refine wpList_store_blk rfl 30 (.tmp 6) (.tmp 56) rfl (b + 1) 0 30 [.slice none 0 0, .slice none 0 0, .slice none 0 0] [.slice ua nu uc, .slice oa no oc, u8] rfl rfl HV4.out.2.2.2 (by simp) size30 (three HV4.out.2.2.1) ?_
          intro Ve hbe hge
          have HE : Hid (Blk Ve (b + 1) 30 [.slice ua nu uc, .slice oa no oc, u8] ∧ RPt Ve (.slice ua nu uc) (.slice oa no oc) (u8) { R with F := R.F.filter (fun f => f.o != o || f.u != u) } ∧ Below w.heap.size w Ve) := by
            have hn := HN.out.2.2.2.2
            have hbw : Below w.heap.size w Ve := HV4.out.1.grown hge.out HV4.out.1.size (fun j hj => by cases hj; omega)
            exact ⟨by simpa using hbe.out, rp_other HV4.out.2.2.1 HV4.out.2.2.2 hge.out, hbw⟩
          clear hbe hge
          go_wp2_with fail
          refine rret30u rfl rfl rfl rfl HE.out.1 ?_
          exact ⟨_, _, _, by rw [HF.out]; rfl, by rw [HF.out]; exact HE.out.2⟩
        · have HQ2 : Hid (i < m) := by have := HI.out.1; show _ < _; omega
          have q1 : (i : Int) < (m : Int) := by have := HQ2.out; omega
          have q2 : i < m := HQ2.out
          have hsv := (HV2.out.2.2.1.below HI.out.2.2.1).f
          rw [HN.out.1] at hsv
          obtain ⟨g, c', f, ha, hg, hf, c0, c1, c2, _⟩ := (sv_fact hsv).2 i q2
          cases ha
          have HSV : Hid (SV wr (.slice (some ⟨g, 0, none⟩) m c) m 4 (fcC R.F)) := hsv
          obtain ⟨fo, hfo, lfo, _⟩ := bs_is f.o
          obtain ⟨fu, hfu, lfu, _⟩ := bs_is f.u
          have HY : Hid (R.F[i]? = some f ∧ fo.toList = f.o ∧ fu.toList = f.u) := ⟨hf, lfo, lfu⟩
          rw [hfo] at c0
          rw [hfu] at c2
          clear hi hf hfo hfu lfo lfu hsv hg c1
          by_cases e1 : f.o = o
          · have b1 := beq_yes HY.out.2.1 HS.out.1 e1
            by_cases e2 : f.u = u
            · have b2 := beq_yes HY.out.2.2 HS.out.2.2.1 e2
              have HKP : Hid (¬ (f.o != o || f.u != u) = true) := by show ¬ _; simp [e1, e2]
              clear e1 e2
              have HE : Hid (i + 1 ≤ m ∧ k ≤ i + 1 ∧ Below V2.heap.size V2 wr ∧ wr.ownsRow V2.heap.size 75 4 u8 (k) (fcC ((R.F.take (i + 1)).filter (fun f => f.o != o || f.u != u)))) := ⟨HQ2.out, by have := HI.out.2.1; omega, HI.out.2.2.1, by rw [filt_snoc _ HY.out.1, if_neg HKP.out, List.append_nil]; exact HI.out.2.2.2⟩
              clear HSV
              go_wp2
              go_roundw
              case rel => exact ⟨i + 1, k, by simp, HE.out⟩
              case measure =>
                have := HQ2.out
                simp only [intOf]
                omega
            · have b2 := beq_no HY.out.2.2 HS.out.2.2.1 e2
              have HKP : Hid ((f.o != o || f.u != u) = true) := by show _ = _; simp [e2]
              clear e1 e2
              have HR : Hid (wr.rangeAt g (i * 4) f.cells) := fact_range HSV.out HY.out.1
              clear HSV
              go_wp2_with (with_reducible change wpList _ _ _ ({ dst := some 51, op := _, type := _, pos := _, after := _, guard := _ } :: _) _ _; refine Hid.out ?_)
              show wpList _ _ _ _ _ _
              refine wpList_load_want rfl 75 (.tmp 50) rfl g (i * 4) rfl f.cells _ HR.out Try.underlying75 rfl size75 ?_
              simp only [Act.put, List.setIfInBounds_toArray, List.set_cons_zero, List.set_cons_succ]
              go_wp2_with (with_reducible change wpList _ _ _ ({ dst := some 52, op := _, type := _, pos := _, after := _, guard := _ } :: _) _ _; refine Hid.out ?_)
              show wpList _ _ _ _ _ _
              refine wpList_bs rfl 28 (.tmp 51) _ rfl rfl (run_bs28 f wr) ?_
              obtain ⟨W2, hW2⟩ : ∃ W, wr.alloc (.cells f.cells.toArray 75) = W := ⟨_, rfl⟩
              obtain ⟨nb, hnb⟩ : ∃ n, wr.heap.size = n := ⟨_, rfl⟩
              rw [hW2, hnb]
              have HW2 : Hid (Below V2.heap.size V2 W2 ∧ W2.ownsRow V2.heap.size 75 4 u8 k (fcC ((R.F.take i).filter (fun f => f.o != o || f.u != u))) ∧ Rx W2 (some ⟨nb, 0, none⟩) 1 4 f.cells) := by
                rw [← hW2, ← hnb]
                exact ⟨below_tr HI.out.2.2.1 (below_al _ _), ownsRow_below HI.out.2.2.2 (below_al _ _), ⟨rfl, cells_one f, fun _ => ⟨_, 0, rfl, range_new wr f.cells 75⟩⟩⟩
              clear hW2 hnb HR
              simp only [Act.put, List.setIfInBounds_toArray, List.set_cons_zero, List.set_cons_succ]
              go_wp2_with (with_reducible change wpList _ _ _ ({ dst := some 53, op := _, type := _, pos := _, after := _, guard := _ } :: _) _ _; refine Hid.out ?_)
              show wpList _ _ _ _ _ _
              refine wpList_append_fc rfl (.tmp 46) (.tmp 52) rfl W2 V2.heap.size u8 k _ HW2.out.2.1 _ 1 1 f.cells rfl rfl HW2.out.2.2 HW2.out.1.size (by have h1 := HI.out; have h2 := HN.out; omega) ?_
              intro v53 W3 ho3 hb3
              have HE : Hid (i + 1 ≤ m ∧ k + 1 ≤ i + 1 ∧ Below V2.heap.size V2 W3 ∧ W3.ownsRow V2.heap.size 75 4 v53 (k + 1) (fcC ((R.F.take (i + 1)).filter (fun f => f.o != o || f.u != u)))) := ⟨HQ2.out, by have := HI.out.2.1; omega, HW2.out.1.trans hb3.out, by rw [filt_snoc _ HY.out.1, if_pos HKP.out]; exact ho3.out⟩
              clear ho3 hb3
              simp only [Act.put, List.setIfInBounds_toArray, List.set_cons_zero, List.set_cons_succ]
              go_wp2
              go_roundw
              case rel => exact ⟨i + 1, k + 1, by simp, HE.out⟩
              case measure =>
                have := HQ2.out
                simp only [intOf]
                omega
          · have b1 := beq_no HY.out.2.1 HS.out.1 e1
            have HKP : Hid ((f.o != o || f.u != u) = true) := by show _ = _; simp [e1]
            clear e1
            have HR : Hid (wr.rangeAt g (i * 4) f.cells) := fact_range HSV.out HY.out.1
            clear HSV
            go_wp2_with (with_reducible change wpList _ _ _ ({ dst := some 51, op := _, type := _, pos := _, after := _, guard := _ } :: _) _ _; refine Hid.out ?_)
            show wpList _ _ _ _ _ _
            refine wpList_load_want rfl 75 (.tmp 50) rfl g (i * 4) rfl f.cells _ HR.out Try.underlying75 rfl size75 ?_
            simp only [Act.put, List.setIfInBounds_toArray, List.set_cons_zero, List.set_cons_succ]
            go_wp2_with (with_reducible change wpList _ _ _ ({ dst := some 52, op := _, type := _, pos := _, after := _, guard := _ } :: _) _ _; refine Hid.out ?_)
            show wpList _ _ _ _ _ _
            refine wpList_bs rfl 28 (.tmp 51) _ rfl rfl (run_bs28 f wr) ?_
            obtain ⟨W2, hW2⟩ : ∃ W, wr.alloc (.cells f.cells.toArray 75) = W := ⟨_, rfl⟩
            obtain ⟨nb, hnb⟩ : ∃ n, wr.heap.size = n := ⟨_, rfl⟩
            rw [hW2, hnb]
            have HW2 : Hid (Below V2.heap.size V2 W2 ∧ W2.ownsRow V2.heap.size 75 4 u8 k (fcC ((R.F.take i).filter (fun f => f.o != o || f.u != u))) ∧ Rx W2 (some ⟨nb, 0, none⟩) 1 4 f.cells) := by
              rw [← hW2, ← hnb]
              exact ⟨below_tr HI.out.2.2.1 (below_al _ _), ownsRow_below HI.out.2.2.2 (below_al _ _), ⟨rfl, cells_one f, fun _ => ⟨_, 0, rfl, range_new wr f.cells 75⟩⟩⟩
            clear hW2 hnb HR
            simp only [Act.put, List.setIfInBounds_toArray, List.set_cons_zero, List.set_cons_succ]
            go_wp2_with (with_reducible change wpList _ _ _ ({ dst := some 53, op := _, type := _, pos := _, after := _, guard := _ } :: _) _ _; refine Hid.out ?_)
            show wpList _ _ _ _ _ _
            refine wpList_append_fc rfl (.tmp 46) (.tmp 52) rfl W2 V2.heap.size u8 k _ HW2.out.2.1 _ 1 1 f.cells rfl rfl HW2.out.2.2 HW2.out.1.size (by have h1 := HI.out; have h2 := HN.out; omega) ?_
            intro v53 W3 ho3 hb3
            have HE : Hid (i + 1 ≤ m ∧ k + 1 ≤ i + 1 ∧ Below V2.heap.size V2 W3 ∧ W3.ownsRow V2.heap.size 75 4 v53 (k + 1) (fcC ((R.F.take (i + 1)).filter (fun f => f.o != o || f.u != u)))) := ⟨HQ2.out, by have := HI.out.2.1; omega, HW2.out.1.trans hb3.out, by rw [filt_snoc _ HY.out.1, if_pos HKP.out]; exact ho3.out⟩
            clear ho3 hb3
            simp only [Act.put, List.setIfInBounds_toArray, List.set_cons_zero, List.set_cons_succ]
            go_wp2
            go_roundw
            case rel => exact ⟨i + 1, k + 1, by simp, HE.out⟩
            case measure =>
              have := HQ2.out
              simp only [intOf]
              omega
end Go.Proofs.Ytfickhhfhdhcbaa.Oct

/- Layer 15 (people): the document's people: one call as the document has it. -/
namespace Go.Proofs.Ytfickhhfhdhcbaa.Oct
open Go.RowKit
set_option linter.unusedSimpArgs false
set_option linter.unusedVariables false

/-- one call -/
def rModel (R : Rp) (a : Av) : Rp × Int := if a.k = 0 then rAddU R a.u else if a.k = 1 then rAddO R a.x a.u else if a.k = 2 then rJoin R a.x a.u a.r else if a.k = 3 then rLeave R a.x a.u else if a.k = 4 then rTeam R a.x a.t else if a.k = 5 then rPut R a.x a.t a.u else rOut R a.x a.t a.u
set_option maxRecDepth 100000 in
set_option maxHeartbeats 4000000 in
theorem rmodel_is {w : World} {uv ov fv : Value} {R : Rp} (h : RPt w uv ov fv R) (hF : R.F.length ≤ 990) (y : Av) (hy : y.ok) : Calls Try.prog 12 #[.agg #[uv, ov, fv], .agg y.cells.toArray] w (Ro w (rModel R y)) := by
  obtain ⟨K, x, t, u, r⟩ := y
  obtain ⟨hx0, ht0, hu0⟩ := hy
  have hx0 : x.length ≤ 140737488355328 := hx0
  have ht0 : t.length ≤ 140737488355328 := ht0
  have hu0 : u.length ≤ 140737488355328 := hu0
  obtain ⟨ua, uc, rfl, _⟩ := h.u
  obtain ⟨oa, oc, rfl, _⟩ := h.o
  obtain ⟨a, c, rfl, _⟩ := h.f
  obtain ⟨m, hm⟩ : ∃ m, R.F.length = m := ⟨_, rfl⟩
  obtain ⟨nu, hnu⟩ : ∃ m, R.U.length = m := ⟨_, rfl⟩
  obtain ⟨no, hno⟩ : ∃ m, R.O.length = m := ⟨_, rfl⟩
  rw [hm, hnu, hno] at h ⊢
  obtain ⟨sx, hsx, hlx, hqx⟩ := bs_is x
  obtain ⟨st, hst, hlt, hqt⟩ := bs_is t
  obtain ⟨su, hsu, hlu, hqu⟩ := bs_is u
  show Calls Try.prog 12 #[.agg #[.slice ua nu uc, .slice oa no oc, .slice a m c], .agg #[iv K, hv x, hv t, hv u, iv r]] w _
  rw [hsx, hst, hsu]
  have hz30 := zero30
  obtain ⟨b, hb⟩ : ∃ b, w.heap.size = b := ⟨_, rfl⟩
  obtain ⟨A, hA⟩ : ∃ A, ((w.alloc (.cells #[.slice ua nu uc, .slice oa no oc, .slice a m c] 30)).alloc (.cells #[iv K, .string sx, .string st, .string su, iv r] 32)).alloc (.cells #[.slice none 0 0, .slice none 0 0, .slice none 0 0] 30) = A := ⟨_, rfl⟩
  have HA : Hid (Below w.heap.size w A ∧ Blk A b 30 [.slice ua nu uc, .slice oa no oc, .slice a m c] ∧ RPt A (.slice ua nu uc) (.slice oa no oc) (.slice a m c) R ∧ Blk A (b + 1) 32 [iv K, .string sx, .string st, .string su, iv r] ∧ Blk A (b + 2) 30 [.slice none 0 0, .slice none 0 0, .slice none 0 0]) := by
    have hB : Below w.heap.size w A := by rw [← hA]; exact (((Below.refl _ w).alloc (Nat.le_refl _) _).alloc (by simp) _).alloc (by simp; omega) _
    refine ⟨hB, ?_, h.below hB, ?_, ?_⟩
    · rw [← hA, ← hb]; exact ((Blk.new w _ _).alloc _).alloc _
    · rw [← hA, ← hb]
      have := (Blk.new (w.alloc (.cells #[.slice ua nu uc, .slice oa no oc, .slice a m c] 30)) #[iv K, .string sx, .string st, .string su, iv r] 32).alloc (.cells #[.slice none 0 0, .slice none 0 0, .slice none 0 0] 30)
      rwa [World.size_alloc] at this
    · rw [← hA, ← hb]
      have := Blk.new ((w.alloc (.cells #[.slice ua nu uc, .slice oa no oc, .slice a m c] 30)).alloc (.cells #[iv K, .string sx, .string st, .string su, iv r] 32)) #[.slice none 0 0, .slice none 0 0, .slice none 0 0] 30
      rwa [World.size_alloc, World.size_alloc] at this
  have HB : Hid (w.heap.size = b) := hb
  have d0 : A.cell? ⟨b + 1, 0, none⟩ = some (iv K) := HA.out.2.2.2.1.cell rfl
  have d1 : A.cell? ⟨b + 1, 1, none⟩ = some (.string sx) := HA.out.2.2.2.1.cell rfl
  have d2 : A.cell? ⟨b + 1, 2, none⟩ = some (.string st) := HA.out.2.2.2.1.cell rfl
  have d3 : A.cell? ⟨b + 1, 3, none⟩ = some (.string su) := HA.out.2.2.2.1.cell rfl
  have d4 : A.cell? ⟨b + 1, 4, none⟩ = some (iv r) := HA.out.2.2.2.1.cell rfl
  have hF' : R.F.length ≤ 990 := hF
  have HH : Hid (RPt A (.slice ua nu uc) (.slice oa no oc) (.slice a m c) R) := HA.out.2.2.1
  clear h hF hm hnu hno hlx hqx hlt hqt hlu hqu
  go_enter Try.func12, Try.ntmps12
  by_cases h0 : K = 0
  · subst h0
    have HC := raddU_is HH.out hF' u hu0
    rw [hsu] at HC
    obtain ⟨q, hq⟩ : ∃ q, rModel R ⟨0, x, t, u, r⟩ = q := ⟨_, rfl⟩
    rw [hq]
    have hq2 : rAddU R u = q := by rw [← hq]; unfold rModel; simp only []; rfl
    rw [hq2] at HC
    clear hq hq2
    go_wp2_with (with_reducible change wpList _ _ _ ({ dst := some 10, op := _, type := _, pos := _, after := _, guard := _ } :: _) _ _; refine Hid.out ?_)
    show wpList _ _ _ _ _ _
    refine wpList_load_row rfl 30 (.tmp 2) rfl b rfl 30 #[.slice ua nu uc, .slice oa no oc, .slice a m c] (0, 0) _ HA.out.2.1 Try.underlying30 rfl size30 ?_
    simp only [Act.put, List.setIfInBounds_toArray, List.set_cons_zero, List.set_cons_succ]
    go_wp2_with fail
    refine HC.mono ?_
    rintro e V ⟨uv, ov, fv, rfl, HO⟩
    have HV : Hid (Blk V (b + 2) 30 [.slice none 0 0, .slice none 0 0, .slice none 0 0] ∧ Below w.heap.size w V) := ⟨HA.out.2.2.2.2.below HO.out.2 HA.out.2.2.2.2.lt, below_tr HA.out.1 HO.out.2⟩
    clear HC
    go_wp2_with (with_reducible change wpList _ _ _ ({ dst := none, op := Op.store 30 _ _, type := _, pos := _, after := _, guard := _ } :: _) _ _; refine Hid.out ?_)
    show wpList _ _ _ _ _ _
    refine wpList_store_blk rfl 30 (.tmp 4) (.tmp 14) rfl (b + 2) 0 30 [.slice none 0 0, .slice none 0 0, .slice none 0 0] [uv, ov, fv] rfl rfl HV.out.1 (by simp) size30 (three HO.out.1) ?_
    intro Ve hbe hge
    have HE : Hid (Blk Ve (b + 2) 30 [uv, ov, fv] ∧ RPt Ve uv ov fv q.1 ∧ Below w.heap.size w Ve) := by
      have hn := HB.out
      exact ⟨by simpa using hbe.out, rp_other HO.out.1 HV.out.1 hge.out, HV.out.2.grown hge.out HV.out.2.size (fun j hj => by cases hj; omega)⟩
    clear hbe hge
    go_wp2_with fail
    refine rret30u rfl rfl rfl rfl HE.out.1 ?_
    exact ⟨_, _, _, rfl, HE.out.2⟩
  · by_cases h1 : K = 1
    · subst h1
      have HC := raddO_is HH.out hF' x u hx0
      rw [hsx, hsu] at HC
      obtain ⟨q, hq⟩ : ∃ q, rModel R ⟨1, x, t, u, r⟩ = q := ⟨_, rfl⟩
      rw [hq]
      have hq2 : rAddO R x u = q := by rw [← hq]; unfold rModel; simp only []; rfl
      rw [hq2] at HC
      clear hq hq2
      clear h0
      go_wp2_with (with_reducible change wpList _ _ _ ({ dst := some 18, op := _, type := _, pos := _, after := _, guard := _ } :: _) _ _; refine Hid.out ?_)
      show wpList _ _ _ _ _ _
      refine wpList_load_row rfl 30 (.tmp 2) rfl b rfl 30 #[.slice ua nu uc, .slice oa no oc, .slice a m c] (0, 0) _ HA.out.2.1 Try.underlying30 rfl size30 ?_
      simp only [Act.put, List.setIfInBounds_toArray, List.set_cons_zero, List.set_cons_succ]
      go_wp2_with fail
      refine HC.mono ?_
      rintro e V ⟨uv, ov, fv, rfl, HO⟩
      have HV : Hid (Blk V (b + 2) 30 [.slice none 0 0, .slice none 0 0, .slice none 0 0] ∧ Below w.heap.size w V) := ⟨HA.out.2.2.2.2.below HO.out.2 HA.out.2.2.2.2.lt, below_tr HA.out.1 HO.out.2⟩
      clear HC
      go_wp2_with (with_reducible change wpList _ _ _ ({ dst := none, op := Op.store 30 _ _, type := _, pos := _, after := _, guard := _ } :: _) _ _; refine Hid.out ?_)
      show wpList _ _ _ _ _ _
      refine wpList_store_blk rfl 30 (.tmp 4) (.tmp 24) rfl (b + 2) 0 30 [.slice none 0 0, .slice none 0 0, .slice none 0 0] [uv, ov, fv] rfl rfl HV.out.1 (by simp) size30 (three HO.out.1) ?_
      intro Ve hbe hge
      have HE : Hid (Blk Ve (b + 2) 30 [uv, ov, fv] ∧ RPt Ve uv ov fv q.1 ∧ Below w.heap.size w Ve) := by
        have hn := HB.out
        exact ⟨by simpa using hbe.out, rp_other HO.out.1 HV.out.1 hge.out, HV.out.2.grown hge.out HV.out.2.size (fun j hj => by cases hj; omega)⟩
      clear hbe hge
      go_wp2_with fail
      refine rret30u rfl rfl rfl rfl HE.out.1 ?_
      exact ⟨_, _, _, rfl, HE.out.2⟩
    · by_cases h2 : K = 2
      · subst h2
        have HC := rjoin_is HH.out hF' x u r
        rw [hsx, hsu] at HC
        obtain ⟨q, hq⟩ : ∃ q, rModel R ⟨2, x, t, u, r⟩ = q := ⟨_, rfl⟩
        rw [hq]
        have hq2 : rJoin R x u r = q := by rw [← hq]; unfold rModel; simp only []; rfl
        rw [hq2] at HC
        clear hq hq2
        clear h0 h1
        go_wp2_with (with_reducible change wpList _ _ _ ({ dst := some 28, op := _, type := _, pos := _, after := _, guard := _ } :: _) _ _; refine Hid.out ?_)
        show wpList _ _ _ _ _ _
        refine wpList_load_row rfl 30 (.tmp 2) rfl b rfl 30 #[.slice ua nu uc, .slice oa no oc, .slice a m c] (0, 0) _ HA.out.2.1 Try.underlying30 rfl size30 ?_
        simp only [Act.put, List.setIfInBounds_toArray, List.set_cons_zero, List.set_cons_succ]
        go_wp2_with fail
        refine HC.mono ?_
        rintro e V ⟨uv, ov, fv, rfl, HO⟩
        have HV : Hid (Blk V (b + 2) 30 [.slice none 0 0, .slice none 0 0, .slice none 0 0] ∧ Below w.heap.size w V) := ⟨HA.out.2.2.2.2.below HO.out.2 HA.out.2.2.2.2.lt, below_tr HA.out.1 HO.out.2⟩
        clear HC
        go_wp2_with (with_reducible change wpList _ _ _ ({ dst := none, op := Op.store 30 _ _, type := _, pos := _, after := _, guard := _ } :: _) _ _; refine Hid.out ?_)
        show wpList _ _ _ _ _ _
        refine wpList_store_blk rfl 30 (.tmp 4) (.tmp 36) rfl (b + 2) 0 30 [.slice none 0 0, .slice none 0 0, .slice none 0 0] [uv, ov, fv] rfl rfl HV.out.1 (by simp) size30 (three HO.out.1) ?_
        intro Ve hbe hge
        have HE : Hid (Blk Ve (b + 2) 30 [uv, ov, fv] ∧ RPt Ve uv ov fv q.1 ∧ Below w.heap.size w Ve) := by
          have hn := HB.out
          exact ⟨by simpa using hbe.out, rp_other HO.out.1 HV.out.1 hge.out, HV.out.2.grown hge.out HV.out.2.size (fun j hj => by cases hj; omega)⟩
        clear hbe hge
        go_wp2_with fail
        refine rret30u rfl rfl rfl rfl HE.out.1 ?_
        exact ⟨_, _, _, rfl, HE.out.2⟩
      · by_cases h3 : K = 3
        · subst h3
          have HC := rleave_is HH.out hF' x u
          rw [hsx, hsu] at HC
          obtain ⟨q, hq⟩ : ∃ q, rModel R ⟨3, x, t, u, r⟩ = q := ⟨_, rfl⟩
          rw [hq]
          have hq2 : rLeave R x u = q := by rw [← hq]; unfold rModel; simp only []; rfl
          rw [hq2] at HC
          clear hq hq2
          clear h0 h1 h2
          go_wp2_with (with_reducible change wpList _ _ _ ({ dst := some 40, op := _, type := _, pos := _, after := _, guard := _ } :: _) _ _; refine Hid.out ?_)
          show wpList _ _ _ _ _ _
          refine wpList_load_row rfl 30 (.tmp 2) rfl b rfl 30 #[.slice ua nu uc, .slice oa no oc, .slice a m c] (0, 0) _ HA.out.2.1 Try.underlying30 rfl size30 ?_
          simp only [Act.put, List.setIfInBounds_toArray, List.set_cons_zero, List.set_cons_succ]
          go_wp2_with fail
          refine HC.mono ?_
          rintro e V ⟨uv, ov, fv, rfl, HO⟩
          have HV : Hid (Blk V (b + 2) 30 [.slice none 0 0, .slice none 0 0, .slice none 0 0] ∧ Below w.heap.size w V) := ⟨HA.out.2.2.2.2.below HO.out.2 HA.out.2.2.2.2.lt, below_tr HA.out.1 HO.out.2⟩
          clear HC
          go_wp2_with (with_reducible change wpList _ _ _ ({ dst := none, op := Op.store 30 _ _, type := _, pos := _, after := _, guard := _ } :: _) _ _; refine Hid.out ?_)
          show wpList _ _ _ _ _ _
          refine wpList_store_blk rfl 30 (.tmp 4) (.tmp 46) rfl (b + 2) 0 30 [.slice none 0 0, .slice none 0 0, .slice none 0 0] [uv, ov, fv] rfl rfl HV.out.1 (by simp) size30 (three HO.out.1) ?_
          intro Ve hbe hge
          have HE : Hid (Blk Ve (b + 2) 30 [uv, ov, fv] ∧ RPt Ve uv ov fv q.1 ∧ Below w.heap.size w Ve) := by
            have hn := HB.out
            exact ⟨by simpa using hbe.out, rp_other HO.out.1 HV.out.1 hge.out, HV.out.2.grown hge.out HV.out.2.size (fun j hj => by cases hj; omega)⟩
          clear hbe hge
          go_wp2_with fail
          refine rret30u rfl rfl rfl rfl HE.out.1 ?_
          exact ⟨_, _, _, rfl, HE.out.2⟩
        · by_cases h4 : K = 4
          · subst h4
            have HC := rteam_is HH.out hF' x t ht0
            rw [hsx, hst] at HC
            obtain ⟨q, hq⟩ : ∃ q, rModel R ⟨4, x, t, u, r⟩ = q := ⟨_, rfl⟩
            rw [hq]
            have hq2 : rTeam R x t = q := by rw [← hq]; unfold rModel; simp only []; rfl
            rw [hq2] at HC
            clear hq hq2
            clear h0 h1 h2 h3
            go_wp2_with (with_reducible change wpList _ _ _ ({ dst := some 50, op := _, type := _, pos := _, after := _, guard := _ } :: _) _ _; refine Hid.out ?_)
            show wpList _ _ _ _ _ _
            refine wpList_load_row rfl 30 (.tmp 2) rfl b rfl 30 #[.slice ua nu uc, .slice oa no oc, .slice a m c] (0, 0) _ HA.out.2.1 Try.underlying30 rfl size30 ?_
            simp only [Act.put, List.setIfInBounds_toArray, List.set_cons_zero, List.set_cons_succ]
            go_wp2_with fail
            refine HC.mono ?_
            rintro e V ⟨uv, ov, fv, rfl, HO⟩
            have HV : Hid (Blk V (b + 2) 30 [.slice none 0 0, .slice none 0 0, .slice none 0 0] ∧ Below w.heap.size w V) := ⟨HA.out.2.2.2.2.below HO.out.2 HA.out.2.2.2.2.lt, below_tr HA.out.1 HO.out.2⟩
            clear HC
            go_wp2_with (with_reducible change wpList _ _ _ ({ dst := none, op := Op.store 30 _ _, type := _, pos := _, after := _, guard := _ } :: _) _ _; refine Hid.out ?_)
            show wpList _ _ _ _ _ _
            refine wpList_store_blk rfl 30 (.tmp 4) (.tmp 56) rfl (b + 2) 0 30 [.slice none 0 0, .slice none 0 0, .slice none 0 0] [uv, ov, fv] rfl rfl HV.out.1 (by simp) size30 (three HO.out.1) ?_
            intro Ve hbe hge
            have HE : Hid (Blk Ve (b + 2) 30 [uv, ov, fv] ∧ RPt Ve uv ov fv q.1 ∧ Below w.heap.size w Ve) := by
              have hn := HB.out
              exact ⟨by simpa using hbe.out, rp_other HO.out.1 HV.out.1 hge.out, HV.out.2.grown hge.out HV.out.2.size (fun j hj => by cases hj; omega)⟩
            clear hbe hge
            go_wp2_with fail
            refine rret30u rfl rfl rfl rfl HE.out.1 ?_
            exact ⟨_, _, _, rfl, HE.out.2⟩
          · by_cases h5 : K = 5
            · subst h5
              have HC := rput_is HH.out hF' x t u
              rw [hsx, hst, hsu] at HC
              obtain ⟨q, hq⟩ : ∃ q, rModel R ⟨5, x, t, u, r⟩ = q := ⟨_, rfl⟩
              rw [hq]
              have hq2 : rPut R x t u = q := by rw [← hq]; unfold rModel; simp only []; rfl
              rw [hq2] at HC
              clear hq hq2
              clear h0 h1 h2 h3 h4
              go_wp2_with (with_reducible change wpList _ _ _ ({ dst := some 60, op := _, type := _, pos := _, after := _, guard := _ } :: _) _ _; refine Hid.out ?_)
              show wpList _ _ _ _ _ _
              refine wpList_load_row rfl 30 (.tmp 2) rfl b rfl 30 #[.slice ua nu uc, .slice oa no oc, .slice a m c] (0, 0) _ HA.out.2.1 Try.underlying30 rfl size30 ?_
              simp only [Act.put, List.setIfInBounds_toArray, List.set_cons_zero, List.set_cons_succ]
              go_wp2_with fail
              refine HC.mono ?_
              rintro e V ⟨uv, ov, fv, rfl, HO⟩
              have HV : Hid (Blk V (b + 2) 30 [.slice none 0 0, .slice none 0 0, .slice none 0 0] ∧ Below w.heap.size w V) := ⟨HA.out.2.2.2.2.below HO.out.2 HA.out.2.2.2.2.lt, below_tr HA.out.1 HO.out.2⟩
              clear HC
              go_wp2_with (with_reducible change wpList _ _ _ ({ dst := none, op := Op.store 30 _ _, type := _, pos := _, after := _, guard := _ } :: _) _ _; refine Hid.out ?_)
              show wpList _ _ _ _ _ _
              refine wpList_store_blk rfl 30 (.tmp 4) (.tmp 68) rfl (b + 2) 0 30 [.slice none 0 0, .slice none 0 0, .slice none 0 0] [uv, ov, fv] rfl rfl HV.out.1 (by simp) size30 (three HO.out.1) ?_
              intro Ve hbe hge
              have HE : Hid (Blk Ve (b + 2) 30 [uv, ov, fv] ∧ RPt Ve uv ov fv q.1 ∧ Below w.heap.size w Ve) := by
                have hn := HB.out
                exact ⟨by simpa using hbe.out, rp_other HO.out.1 HV.out.1 hge.out, HV.out.2.grown hge.out HV.out.2.size (fun j hj => by cases hj; omega)⟩
              clear hbe hge
              go_wp2_with fail
              refine rret30u rfl rfl rfl rfl HE.out.1 ?_
              exact ⟨_, _, _, rfl, HE.out.2⟩
            · have n0 : (K == 0) = false := by simpa using h0
              have n1 : (K == 1) = false := by simpa using h1
              have n2 : (K == 2) = false := by simpa using h2
              have n3 : (K == 3) = false := by simpa using h3
              have n4 : (K == 4) = false := by simpa using h4
              have n5 : (K == 5) = false := by simpa using h5
              have HC := rout_is HH.out hF' x t u
              rw [hsx, hst, hsu] at HC
              obtain ⟨q, hq⟩ : ∃ q, rModel R ⟨K, x, t, u, r⟩ = q := ⟨_, rfl⟩
              rw [hq]
              have hq2 : rOut R x t u = q := by rw [← hq]; unfold rModel; simp only []; rw [if_neg h0, if_neg h1, if_neg h2, if_neg h3, if_neg h4, if_neg h5]
              rw [hq2] at HC
              clear hq hq2
              go_wp2_with (with_reducible change wpList _ _ _ ({ dst := some 70, op := _, type := _, pos := _, after := _, guard := _ } :: _) _ _; refine Hid.out ?_)
              show wpList _ _ _ _ _ _
              refine wpList_load_row rfl 30 (.tmp 2) rfl b rfl 30 #[.slice ua nu uc, .slice oa no oc, .slice a m c] (0, 0) _ HA.out.2.1 Try.underlying30 rfl size30 ?_
              simp only [Act.put, List.setIfInBounds_toArray, List.set_cons_zero, List.set_cons_succ]
              go_wp2_with fail
              refine HC.mono ?_
              rintro e V ⟨uv, ov, fv, rfl, HO⟩
              have HV : Hid (Blk V (b + 2) 30 [.slice none 0 0, .slice none 0 0, .slice none 0 0] ∧ Below w.heap.size w V) := ⟨HA.out.2.2.2.2.below HO.out.2 HA.out.2.2.2.2.lt, below_tr HA.out.1 HO.out.2⟩
              clear HC
              go_wp2_with (with_reducible change wpList _ _ _ ({ dst := none, op := Op.store 30 _ _, type := _, pos := _, after := _, guard := _ } :: _) _ _; refine Hid.out ?_)
              show wpList _ _ _ _ _ _
              refine wpList_store_blk rfl 30 (.tmp 4) (.tmp 78) rfl (b + 2) 0 30 [.slice none 0 0, .slice none 0 0, .slice none 0 0] [uv, ov, fv] rfl rfl HV.out.1 (by simp) size30 (three HO.out.1) ?_
              intro Ve hbe hge
              have HE : Hid (Blk Ve (b + 2) 30 [uv, ov, fv] ∧ RPt Ve uv ov fv q.1 ∧ Below w.heap.size w Ve) := by
                have hn := HB.out
                exact ⟨by simpa using hbe.out, rp_other HO.out.1 HV.out.1 hge.out, HV.out.2.grown hge.out HV.out.2.size (fun j hj => by cases hj; omega)⟩
              clear hbe hge
              go_wp2_with fail
              refine rret30u rfl rfl rfl rfl HE.out.1 ?_
              exact ⟨_, _, _, rfl, HE.out.2⟩
end Go.Proofs.Ytfickhhfhdhcbaa.Oct
