/-
  Layer 15 (people): the document's people: Subject.
-/
import Derived.Test.YtfickhhfhdhcbaaRfl
namespace Go.Proofs.Ytfickhhfhdhcbaa.Oct
open Go.RowKit
set_option linter.unusedSimpArgs false
set_option linter.unusedVariables false

theorem zero42r (W : World) : (zeroValue 42).run Try.prog W = .ok (.agg #[.string ⟨#[]⟩, .slice none 0 0, iv 0]) W := by kernel_rfl
/-- a user's teams, by the facts -/
def subF (F : List Fc) (o u : Hs) : List Hs := if u = [] then [] else (teaF F o).filter (fun t => decide (0 ≤ fct F o t u))
def RSub (w : World) (F : List Fc) (o u : Hs) (e : Ending) (w' : World) : Prop := ∃ a n c, e = .returned (.agg #[hv u, .slice a n c, iv (roleF F o u)]) ∧ Hid (StrAt w' a n (subF F o u) ∧ n ≤ 990 ∧ Below w.heap.size w w')
/-- names stay where a box of a user is written -/
theorem sv_box {V W : World} {v : Value} {n b7 : Nat} {l : List Hs} {su : ByteArray} {va va' : Option Addr} {k vc k' vc' : Nat} {r : Int} {B : Nat} (h : SV V v n 1 (l.map hv)) (hb : Blk V b7 42 [.string su, .slice va k vc, iv r]) (hb' : Blk W b7 42 [.string su, .slice va' k' vc', iv r]) (hk : Keep (fun j => j = b7 ∨ B ≤ j) V W) (hB : V.heap.size ≤ B) : SV W v n 1 (l.map hv) := by
  obtain ⟨a', c', rfl, h1, h2, h3, h4, h5⟩ := h
  refine ⟨a', c', rfl, h1, h2, h3, h4, ?_⟩
  rcases h5 with h5 | ⟨g', rfl, hl, hc⟩
  · exact .inl h5
  · refine .inr ⟨g', rfl, Nat.lt_of_lt_of_le hl hk.size, fun j u hu => ?_⟩
    by_cases e : g' = b7
    · subst e
      have h0 : ∀ x, (l.map hv)[1]? = some x → False := fun x hx => by
        have h6 := hc 1 x hx
        have h7 : V.cell? ⟨g', 1, none⟩ = some (.slice va k vc) := hb.cell rfl
        rw [h7] at h6
        injection h6 with h6
        have := hv_one l x (List.mem_of_getElem? hx)
        simp only [List.getElem?_map] at hx
        obtain ⟨y, _, hy⟩ := Option.map_eq_some_iff.1 hx
        rw [← h6] at hy
        unfold hv at hy
        cases hy
      have hj : j = 0 := by
        have h8 := (List.getElem?_eq_some_iff.1 hu).1
        by_cases e2 : j = 0
        · exact e2
        · exact (h0 _ (List.getElem?_eq_getElem (by omega))).elim
      subst hj
      have h6 := hc 0 u hu
      have h7 : V.cell? ⟨g', 0, none⟩ = some (.string su) := hb.cell rfl
      rw [h7] at h6
      rw [← h6]
      exact hb'.cell rfl
    · exact (World.cell?_of_block (a := ⟨g', j, none⟩) (hk.block g' hl (by rintro (e3 | e3); exact e e3; omega))).trans (hc j u hu)
theorem own_sl {w : World} {B e sz n : Nat} {v : Value} {cs : List Value} (h : w.ownsRow B e sz v n cs) : ∃ a c, v = .slice a n c := by
  rcases h.2 with ⟨rfl, rfl⟩ | ⟨g, cap, cur, rfl, _⟩
  · exact ⟨none, 0, rfl⟩
  · exact ⟨_, _, rfl⟩
theorem rret42 {R : Ending → World → Prop} {fn : Func} {pt : Tmp} {a : Act} {w : World} {g : Nat} {X : List Value} (hr : fn.results = #[.cell pt 42]) (hd : a.defers = []) (hp : a.tmps.getD pt undef = .pointer (some ⟨g, 0, none⟩)) (hl : X.length = 3)
    (hb : Blk w g 42 X) (hR : R (.returned (.agg X.toArray)) w) : bodyPost Try.prog fn R .ret a w :=
  bodyPost_ret (results_cell_row hr _ w g 42 X.toArray (0, 0) _ hp hb Try.underlying42 rfl (by rw [List.size_toArray, hl]; exact size42)) hd hR
set_option maxRecDepth 100000 in
set_option maxHeartbeats 4000000 in
theorem rsub_is {w : World} {uv ov fv : Value} {R : Rp} (h : RPt w uv ov fv R) (hF : R.F.length ≤ 990) (o : Hs) (u : Hs) : Calls Try.prog 22 #[.agg #[uv, ov, fv], hv o, hv u] w (RSub w R.F o u) := by
  obtain ⟨m, hm⟩ : ∃ m, R.F.length = m := ⟨_, rfl⟩
  obtain ⟨nu, hnu⟩ : ∃ m, R.U.length = m := ⟨_, rfl⟩
  obtain ⟨no, hno⟩ : ∃ m, R.O.length = m := ⟨_, rfl⟩
  obtain ⟨ua, uc, rfl, _⟩ := h.u
  obtain ⟨oa, oc, rfl, _⟩ := h.o
  obtain ⟨a, c, rfl, _⟩ := h.f
  rw [hm, hnu, hno] at h ⊢
  obtain ⟨so, hso, hlo, hqo⟩ := bs_is o
  obtain ⟨su, hsu, hlu, hqu⟩ := bs_is u
  have HS : Hid (so.toList = o ∧ hv o = .string so ∧ su.toList = u ∧ hv u = .string su ∧ True) := ⟨hlo, hso, hlu, hsu, trivial⟩
  have hz30 := zero42r
  obtain ⟨b, hb⟩ : ∃ b, w.heap.size = b := ⟨_, rfl⟩
  obtain ⟨A, hA⟩ : ∃ A, (w.alloc (.cells #[.slice ua nu uc, .slice oa no oc, .slice a m c] 30)).alloc (.cells #[.string ⟨#[]⟩, .slice none 0 0, iv 0] 42) = A := ⟨_, rfl⟩
  have hB : Below w.heap.size w A := by rw [← hA]; exact ((Below.refl _ w).alloc (Nat.le_refl _) _).alloc (by simp) _
  have h2 : Blk A b 30 [.slice ua nu uc, .slice oa no oc, .slice a m c] := by rw [← hA, ← hb]; exact (Blk.new w _ _).alloc _
  have h4 : Blk A (b + 1) 42 [.string ⟨#[]⟩, .slice none 0 0, iv 0] := by
    rw [← hA, ← hb]
    have := Blk.new (w.alloc (.cells #[.slice ua nu uc, .slice oa no oc, .slice a m c] 30)) #[.string ⟨#[]⟩, .slice none 0 0, iv 0] 42
    rwa [World.size_alloc] at this
  have HA0 : Hid (RPt w (.slice ua nu uc) (.slice oa no oc) (.slice a m c) R) := h
  have HA : Hid (Below w.heap.size w A ∧ Blk A b 30 [.slice ua nu uc, .slice oa no oc, .slice a m c] ∧ RPt A (.slice ua nu uc) (.slice oa no oc) (.slice a m c) R ∧ Blk A (b + 1) 42 [.string ⟨#[]⟩, .slice none 0 0, iv 0]) := ⟨hB, h2, h.below hB, h4⟩
  have HN : Hid (R.F.length = m ∧ R.U.length = nu ∧ R.O.length = no ∧ m ≤ 990 ∧ w.heap.size = b) := ⟨hm, hnu, hno, by omega, hb⟩
  have qu : (nu : Int) ≤ 1000 := by have := h.nu; omega
  have qo : (no : Int) ≤ 1000 := by have := h.no; omega
  have qm : (m : Int) ≤ 990 := by omega
  rw [hso, hsu]
  clear h hF hm hnu hno hB h2 h4 hlo hqo hlu hqu
  go_enter Try.func22, Try.ntmps22
  obtain ⟨r, hr0⟩ : ∃ k, roleF R.F o u = k := ⟨_, rfl⟩
  have HR0 : Hid (roleF R.F o u = r) := hr0
  have HC := rrole_is HA.out.2.2.1 o u
  rw [hso, hsu, hr0] at HC
  go_wp2_with (with_reducible change wpList _ _ _ ({ dst := some 11, op := _, type := _, pos := _, after := _, guard := _ } :: _) _ _; refine Hid.out ?_)
  show wpList _ _ _ _ _ _
  refine wpList_load_row rfl 30 (.tmp 3) rfl b rfl 30 #[.slice ua nu uc, .slice oa no oc, .slice a m c] (0, 0) _ HA.out.2.1 Try.underlying30 rfl size30 ?_
  simp only [Act.put, List.setIfInBounds_toArray, List.set_cons_zero, List.set_cons_succ]
  go_wp2_with fail
  refine HC.mono ?_
  rintro e V1 ⟨rfl, hb1⟩
  have HV1 : Hid (Below w.heap.size w V1 ∧ Blk V1 b 30 [.slice ua nu uc, .slice oa no oc, .slice a m c] ∧ RPt V1 (.slice ua nu uc) (.slice oa no oc) (.slice a m c) R ∧ Blk V1 (b + 1) 42 [.string ⟨#[]⟩, .slice none 0 0, iv 0]) := ⟨below_tr HA.out.1 hb1, HA.out.2.1.below hb1 HA.out.2.1.lt, HA.out.2.2.1.below hb1, HA.out.2.2.2.below hb1 HA.out.2.2.2.lt⟩
  clear HC hb1 hr0 hA hb
  obtain ⟨b7, hb7⟩ : ∃ n, V1.heap.size = n := ⟨_, rfl⟩
  go_wp2_with (with_reducible change wpList _ _ _ ({ dst := none, op := Op.store 42 _ _, type := _, pos := _, after := _, guard := _ } :: _) _ _; refine Hid.out ?_)
  show wpList _ _ _ _ _ _
  refine wpList_store_blk rfl 42 (.tmp 7) (.tmp 15) rfl b7 0 42 [.string ⟨#[]⟩, .slice none 0 0, iv 0] [.string su, .slice none 0 0, iv r] rfl rfl (by rw [← hb7]; exact Blk.new V1 _ _) (by simp) size42 (by simp [Value.oneCell']) ?_
  intro V2 hb2 hg2
  have HV2 : Hid (Below w.heap.size w V2 ∧ Blk V2 b 30 [.slice ua nu uc, .slice oa no oc, .slice a m c] ∧ RPt V2 (.slice ua nu uc) (.slice oa no oc) (.slice a m c) R ∧ Blk V2 (b + 1) 42 [.string ⟨#[]⟩, .slice none 0 0, iv 0]) := by
    have hB : Below V1.heap.size V1 V2 := (below_al V1 _).grown hg2.out (by simp) (fun j hj => by cases hj; omega)
    exact ⟨below_tr HV1.out.1 hB, HV1.out.2.1.below hB HV1.out.2.1.lt, HV1.out.2.2.1.below hB, HV1.out.2.2.2.below hB HV1.out.2.2.2.lt⟩
  have H7 : Hid (Blk V2 b7 42 [.string su, .slice none 0 0, iv r] ∧ w.heap.size ≤ b7 ∧ b + 1 < b7) := ⟨by simpa using hb2.out, by rw [← hb7]; exact HV1.out.1.size, by rw [← hb7]; exact HV1.out.2.2.2.lt⟩
  clear hb2 hg2 hb7
  obtain ⟨L, hL⟩ : ∃ L, teaF R.F o = L := ⟨_, rfl⟩
  obtain ⟨ln, hln⟩ : ∃ n, L.length = n := ⟨_, rfl⟩
  have HLN : Hid (teaF R.F o = L ∧ L.length = ln ∧ ln ≤ 990) := ⟨hL, hln, by have h1 := teaF_len R.F o; have h2 := HN.out; rw [hL] at h1; omega⟩
  have ql : (ln : Int) ≤ 990 := by have := HLN.out.2.2; omega
  have HC1 := rteams_is HV2.out.2.2.1 (by have := HN.out; omega) o
  rw [hso, hL, hln] at HC1
  simp only [Act.put, List.setIfInBounds_toArray, List.set_cons_zero, List.set_cons_succ]
  go_wp2_with (with_reducible change wpList _ _ _ ({ dst := some 16, op := _, type := _, pos := _, after := _, guard := _ } :: _) _ _; refine Hid.out ?_)
  show wpList _ _ _ _ _ _
  refine wpList_load_row rfl 30 (.tmp 3) rfl b rfl 30 #[.slice ua nu uc, .slice oa no oc, .slice a m c] (0, 0) _ HV2.out.2.1 Try.underlying30 rfl size30 ?_
  simp only [Act.put, List.setIfInBounds_toArray, List.set_cons_zero, List.set_cons_succ]
  go_wp2_with fail
  refine HC1.mono ?_
  rintro e V3 ⟨v1, rfl, hs1, hb1⟩
  have hs1' := hs1
  obtain ⟨la, lc, hv1, _⟩ := hs1
  subst hv1
  have HV3 : Hid (Below w.heap.size w V3 ∧ Blk V3 b 30 [.slice ua nu uc, .slice oa no oc, .slice a m c] ∧ RPt V3 (.slice ua nu uc) (.slice oa no oc) (.slice a m c) R ∧ Blk V3 (b + 1) 42 [.string ⟨#[]⟩, .slice none 0 0, iv 0]) := ⟨below_tr HV2.out.1 hb1, HV2.out.2.1.below hb1 HV2.out.2.1.lt, HV2.out.2.2.1.below hb1, HV2.out.2.2.2.below hb1 HV2.out.2.2.2.lt⟩
  obtain ⟨B, hB⟩ : ∃ B, V3.heap.size = B := ⟨_, rfl⟩
  have HT : Hid (SV V3 (.slice la ln lc) ln 1 (L.map hv) ∧ Blk V3 b7 42 [.string su, .slice none 0 0, iv r] ∧ V3.heap.size = B ∧ b7 < B) := ⟨hs1', H7.out.1.below hb1 H7.out.1.lt, hB, by rw [← hB]; exact (H7.out.1.below hb1 H7.out.1.lt).lt⟩
  obtain ⟨pick6, hp6⟩ : ∃ f : List Hs → List Hs, f = fun l => if u = [] then [] else l.filter (fun t => decide (0 ≤ fct R.F o t u)) := ⟨_, rfl⟩
  have HP6 : Hid (pick6 = fun l => if u = [] then [] else l.filter (fun t => decide (0 ≤ fct R.F o t u))) := hp6
  clear HC1 hs1' hb1 hL hln hB hp6
  go_wp2
  go_loopw [9] (fun x9 W => ∃ i k vc : Nat, ∃ va, x9 = iv i ∧ Hid (i ≤ ln ∧ k ≤ i ∧ Keep (fun j => j = b7 ∨ B ≤ j) V3 W ∧ W.ownsRow B 9 1 (.slice va k vc) k ((pick6 (L.take i)).map hv) ∧ Blk W b7 42 [.string su, .slice va k vc, iv r])) (fun x9 _ => ln - (intOf x9).toNat)
  case atStart => exact ⟨0, 0, 0, none, rfl, Nat.zero_le _, Nat.le_refl _, Keep.refl _ _, ⟨by rw [HP6.out]; simp, .inl ⟨rfl, rfl⟩⟩, HT.out.2.1⟩
  case round =>
    obtain ⟨i, k, vc, va, rfl, HI⟩ := hrel
    have HBX : Hid (Blk wr b 30 [.slice ua nu uc, .slice oa no oc, .slice a m c] ∧ Blk wr (b + 1) 42 [.string ⟨#[]⟩, .slice none 0 0, iv 0] ∧ Below w.heap.size w wr ∧ SV wr (.slice la ln lc) ln 1 (L.map hv)) := by
      have hk := HI.out.2.2.1
      have h7 := H7.out
      have hn := HN.out.2.2.2.2
      have hB := HT.out.2.2.1
      refine ⟨hk.blk HV3.out.2.1 (by have := HV3.out.2.1.lt; omega), hk.blk HV3.out.2.2.2 (by have := HV3.out.2.2.2.lt; omega), HV3.out.1.trans (hk.toBelow HV3.out.1.size (fun j hj => by have := HV3.out.1.size; rcases hj with e | e <;> omega)), sv_box HT.out.1 HT.out.2.1 HI.out.2.2.2.2 hk (by omega)⟩
    by_cases hi : i = ln
    · have q1 : (ln : Int) ≤ (i : Int) := by omega
      clear hi
      go_wp2_with (with_reducible change wpList _ _ _ ({ dst := some 47, op := _, type := _, pos := _, after := _, guard := _ } :: _) _ _; refine Hid.out ?_)
      show wpList _ _ _ _ _ _
      refine wpList_load_row rfl 42 (.tmp 7) rfl b7 rfl 42 #[.string su, .slice va k vc, iv r] (0, 0) _ HI.out.2.2.2.2 Try.underlying42 rfl size42 ?_
      simp only [Act.put, List.setIfInBounds_toArray, List.set_cons_zero, List.set_cons_succ]
      go_wp2_with (with_reducible change wpList _ _ _ ({ dst := none, op := Op.store 42 _ _, type := _, pos := _, after := _, guard := _ } :: _) _ _; refine Hid.out ?_)
      show wpList _ _ _ _ _ _
      refine wpList_store_blk rfl 42 (.tmp 6) (.tmp 47) rfl (b + 1) 0 42 [.string ⟨#[]⟩, .slice none 0 0, iv 0] [.string su, .slice va k vc, iv r] rfl rfl HBX.out.2.1 (by simp) size42 (by simp [Value.oneCell']) ?_
      intro Ve hbe hge
      have HE : Hid (Blk Ve (b + 1) 42 [.string su, .slice va k vc, iv r] ∧ StrAt Ve va k (subF R.F o u) ∧ k ≤ 990 ∧ Below w.heap.size w Ve) := by
        have hn := HN.out.2.2.2.2
        have hlt := HV3.out.2.2.2.lt
        have hB := HT.out.2.2.1
        have hll := HLN.out
        have hp : pick6 (L.take i) = subF R.F o u := by
          rw [List.take_of_length_le (by omega), HP6.out, ← hll.1]
          rfl
        have ho : Ve.ownsRow B 9 1 (.slice va k vc) k ((subF R.F o u).map hv) := by
          rw [← hp]
          exact own_same HI.out.2.2.2.1 (fun g h1 h2 => hge.out.block g h2 (fun e => by cases e; omega))
        refine ⟨by simpa using hbe.out, own_str ho (by have := ho.1; simpa using this), by have := HI.out; omega, HBX.out.2.2.1.grown hge.out HBX.out.2.2.1.size (fun j hj => by cases hj; omega)⟩
      clear hbe hge
      go_wp2_with fail
      refine rret42 rfl rfl rfl rfl HE.out.1 ?_
      exact ⟨va, k, vc, by rw [HS.out.2.2.2.1, HR0.out], HE.out.2⟩
    · have HQ2 : Hid (i < ln) := by have := HI.out.1; show _ < _; omega
      have q1 : (i : Int) < (ln : Int) := by have := HQ2.out; omega
      have q2 : i < ln := HQ2.out
      obtain ⟨g, c', y, hlv, hg, hy, hc⟩ := (sv_name HBX.out.2.2.2).2 i q2
      cases hlv
      obtain ⟨sy, hsy, hly, _⟩ := bs_is y
      rw [hsy] at hc
      have HY : Hid (L[i]? = some y ∧ hv y = .string sy) := ⟨hy, hsy⟩
      have HB2 : Hid (Blk wr b 30 [.slice ua nu uc, .slice oa no oc, .slice a m c]) := HBX.out.1
      have HIX : Hid ((i : Int) < (ln : Int) ∧ i < ln) := ⟨q1, q2⟩
      have HCY : Hid (wr.cell? ⟨g, i, none⟩ = some (.string sy) ∧ g < wr.heap.size) := ⟨hc, hg⟩
      clear hi hy hsy hly hc hg
      by_cases hu : u = []
      · have b1 := empty_yes HS.out.2.2.1 hu
        have HE : Hid (i + 1 ≤ ln ∧ k ≤ i + 1 ∧ Keep (fun j => j = b7 ∨ B ≤ j) V3 wr ∧ wr.ownsRow B 9 1 (.slice va (k) vc) (k) ((pick6 (L.take (i + 1))).map hv) ∧ Blk wr b7 42 [.string su, .slice va (k) vc, iv r]) := ⟨HQ2.out, by have := HI.out.2.1; omega, HI.out.2.2.1, by have h1 := HI.out.2.2.2.1; rw [HP6.out] at h1 ⊢; simp only [if_pos hu] at h1 ⊢; exact h1, HI.out.2.2.2.2⟩
        clear hu
        go_wp2_with fail
        refine sub6n b1 ?_
        intro V4 hV4
        have HE4 : Hid (i + 1 ≤ ln ∧ k ≤ i + 1 ∧ Keep (fun j => j = b7 ∨ B ≤ j) V3 V4 ∧ V4.ownsRow B 9 1 (.slice va (k) vc) (k) ((pick6 (L.take (i + 1))).map hv) ∧ Blk V4 b7 42 [.string su, .slice va (k) vc, iv r]) := ⟨HE.out.1, HE.out.2.1, HE.out.2.2.1.trans (Keep.below hV4) (fun j hj _ => hj), ownsRow_below HE.out.2.2.2.1 hV4, HE.out.2.2.2.2.below hV4 HE.out.2.2.2.2.lt⟩
        clear hV4 HE
        go_wp2
        go_roundw
        case rel => exact ⟨i + 1, k, vc, va, by simp, HE4.out⟩
        case measure =>
          have := HQ2.out
          simp only [intOf]
          omega
      · have b1 := empty_no HS.out.2.2.1 hu
        obtain ⟨kf, hkf⟩ : ∃ k, fct R.F o y u = k := ⟨_, rfl⟩
        have HRO : Hid (∀ V, Below wr.heap.size wr V → Calls Try.prog 47 #[.agg #[.slice ua nu uc, .slice oa no oc, .slice a m c], .string so, .string sy, .string su] V fun e V2 => e = .returned (iv kf) ∧ Below V.heap.size V V2) := fun V hV => by
          have h0 : RPt V (.slice ua nu uc) (.slice oa no oc) (.slice a m c) R := (HA0.out.below HBX.out.2.2.1).below hV
          have h1 := rfact_is h0 o y u
          rw [HS.out.2.1, HY.out.2, HS.out.2.2.2.1, hkf] at h1
          exact h1
        have HST : Hid (pick6 (L.take (i + 1)) = pick6 (L.take i) ++ (if 0 ≤ kf then [y] else [])) := by
          show _ = _
          rw [HP6.out, take_snoc HY.out.1]
          simp only [if_neg hu, List.filter_append]
          congr 1
          rw [← hkf]
          by_cases e : 0 ≤ fct R.F o y u
          · simp [e]
          · simp [e]
        clear hu hkf
        go_wp2_with fail
        refine sub6y HB2 HIX HCY HRO b1 ?_
        intro V4 hV4
        have HI4 : Hid (i ≤ ln ∧ k ≤ i ∧ Keep (fun j => j = b7 ∨ B ≤ j) V3 V4 ∧ V4.ownsRow B 9 1 (.slice va k vc) k ((pick6 (L.take i)).map hv) ∧ Blk V4 b7 42 [.string su, .slice va k vc, iv r] ∧ B ≤ V4.heap.size) := ⟨HI.out.1, HI.out.2.1, HI.out.2.2.1.trans (Keep.below hV4) (fun j hj _ => hj), ownsRow_below HI.out.2.2.2.1 hV4, HI.out.2.2.2.2.below hV4 HI.out.2.2.2.2.lt, by have h1 := HI.out.2.2.1.size; have h2 := hV4.size; have h3 := HT.out.2.2.1; omega⟩
        clear hV4 HI HBX HB2 HCY HRO
        by_cases h0 : 0 ≤ kf
        · have HL7 : Hid (b7 < B ∧ B ≤ V4.heap.size) := ⟨HT.out.2.2.2, HI4.out.2.2.2.2.2⟩
          have HX7 : Hid (Blk V4 b7 42 [.string su, .slice va k vc, iv r]) := HI4.out.2.2.2.2.1
          have HO7 : Hid (V4.ownsRow B 9 1 (.slice va k vc) k ((pick6 (L.take i)).map hv)) := HI4.out.2.2.2.1
          have HC7 : Hid (∀ V, Keep (fun j => j = b7 ∨ B ≤ j) V4 V → Blk V b7 42 [.string su, .slice va k vc, iv r] → V.cell? ⟨g, i, none⟩ = some (.string sy)) := fun V hk hb => by
            have h1 := sv_box HT.out.1 HT.out.2.1 hb (HI4.out.2.2.1.trans hk (fun j hj _ => hj)) (by have := HT.out.2.2.1; omega)
            obtain ⟨g', c'', y', e, _, hy', hc'⟩ := (sv_name h1).2 i HIX.out.2
            cases e
            rw [HY.out.1] at hy'
            cases hy'
            rw [HY.out.2] at hc'
            exact hc'
          have HN7 : Hid (k ≤ 1000) := by have h1 := HI4.out; have h2 := HLN.out; show _ ≤ _; omega
          obtain ⟨i0, z, k0, k1, k2, k3, k4⟩ := info9'
          have HI9 : Hid (Try.prog.info? 9 = some i0 ∧ i0.zero = some z ∧ i0.size = 1 ∧ i0.bytes = 16 ∧ z.cells.size = 1) := ⟨k0, k1, k2, k3, k4⟩
          clear k0 k1 k2 k3 k4
          go_wp2_with fail
          refine sub7 HL7 HX7 HO7 HIX HC7 HN7 HI9 ?_
          intro V5 v2 nb ho5 hx5 hk5
          obtain ⟨va2, vc2, e5⟩ := own_sl ho5
          subst e5
          have HE : Hid (i + 1 ≤ ln ∧ k + 1 ≤ i + 1 ∧ Keep (fun j => j = b7 ∨ B ≤ j) V3 V5 ∧ V5.ownsRow B 9 1 (.slice va2 (k + 1) vc2) (k + 1) ((pick6 (L.take (i + 1))).map hv) ∧ Blk V5 b7 42 [.string su, .slice va2 (k + 1) vc2, iv r]) := ⟨HQ2.out, by have := HI4.out.2.1; omega, HI4.out.2.2.1.trans hk5 (fun j hj _ => hj), by rw [HST.out, if_pos h0, List.map_append, List.map_cons, List.map_nil, HY.out.2]; exact ho5, hx5⟩
          clear ho5 hx5 hk5 HI4 HX7 HO7 HC7 h0
          go_wp2
          go_roundw
          case rel => exact ⟨i + 1, k + 1, vc2, va2, by simp, HE.out⟩
          case measure =>
            have := HQ2.out
            simp only [intOf]
            omega
        · have h9 : kf < 0 := by omega
          have HE : Hid (i + 1 ≤ ln ∧ k ≤ i + 1 ∧ Keep (fun j => j = b7 ∨ B ≤ j) V3 V4 ∧ V4.ownsRow B 9 1 (.slice va (k) vc) (k) ((pick6 (L.take (i + 1))).map hv) ∧ Blk V4 b7 42 [.string su, .slice va (k) vc, iv r]) := ⟨HQ2.out, by have := HI4.out.2.1; omega, HI4.out.2.2.1, by rw [HST.out, if_neg h0, List.append_nil]; exact HI4.out.2.2.2.1, HI4.out.2.2.2.2.1⟩
          clear h0 HI4
          go_wp2
          go_roundw
          case rel => exact ⟨i + 1, k, vc, va, by simp, HE.out⟩
          case measure =>
            have := HQ2.out
            simp only [intOf]
            omega
#print axioms rsub_is
end Go.Proofs.Ytfickhhfhdhcbaa.Oct
