/-
  Layer 15 (people): the document's people: Role, Members, Teams, last.
-/
import Derived.Test.YtfickhhfhdhcbaaRfc
namespace Go.Proofs.Ytfickhhfhdhcbaa.Oct
open Go.RowKit
set_option linter.unusedSimpArgs false
set_option linter.unusedVariables false

def toB (l : List Hs) : List BA := l.map fun x => ⟨x.toArray⟩
theorem bk_to (x : Hs) : bk ⟨x.toArray⟩ = x := rfl
theorem toB_bk (l : List Hs) : (toB l).map bk = l := by
  unfold toB
  rw [List.map_map]
  simp [Function.comp_def, bk_to]
theorem to_bk (l : List BA) : toB (l.map bk) = l := by
  unfold toB
  rw [List.map_map]
  simp [Function.comp_def, bk]
theorem withB_toB (s : Hs) (l : List Hs) : withB ⟨s.toArray⟩ (toB l) = toB (withL s l) := by
  have h := withB_bk ⟨s.toArray⟩ (toB l)
  rw [toB_bk, bk_to] at h
  rw [← h, to_bk]
theorem toB_at {l : List Hs} {i : Nat} {x : BA} (h : (toB l)[i]? = some x) : ∃ y, l[i]? = some y ∧ x = ⟨y.toArray⟩ := by
  unfold toB at h
  rw [List.getElem?_map] at h
  obtain ⟨y, h1, h2⟩ := Option.map_eq_some_iff.1 h
  exact ⟨y, h1, h2.symm⟩
theorem sv_ts {w : World} {v : Value} {n : Nat} {l : List Hs} (h : SV w v n 1 (l.map hv)) : TS w v (toB l) := by
  obtain ⟨a, c, rfl, h1, h2, h3, h4, h5⟩ := h
  have hl : l.length = n := by simpa using h3
  rcases h5 with ⟨rfl, rfl⟩ | ⟨g, rfl, hg, hc⟩
  · obtain rfl : n = 0 := by omega
    exact .inl ⟨rfl, by rw [List.eq_nil_of_length_eq_zero hl]; rfl⟩
  · refine .inr ⟨g, c, by simp [toB, hl], by simp [toB, hl]; exact h1, h2, hg, fun i x hx => ?_⟩
    obtain ⟨y, hy, rfl⟩ := toB_at hx
    exact hc i _ (by simp [hy]; rfl)
theorem ts_sv {w : World} {v : Value} {l : List Hs} (h : TS w v (toB l)) : SV w v l.length 1 (l.map hv) := by
  rcases h with ⟨rfl, h⟩ | ⟨g, c, rfl, h1, h2, h3, h4⟩
  · have : l = [] := by
      unfold toB at h
      exact List.map_eq_nil_iff.1 h
    subst this
    exact SV.nil w 1
  · have hl : (toB l).length = l.length := by simp [toB]
    rw [hl] at h1 ⊢
    refine ⟨_, c, rfl, h1, h2, by simp, hv_one l, .inr ⟨g, rfl, h3, fun j u hu => ?_⟩⟩
    rw [List.getElem?_map] at hu
    obtain ⟨y, hy, rfl⟩ := Option.map_eq_some_iff.1 hu
    exact h4 j _ (by simp [toB, hy])
theorem rWith_is {w : World} {v : Value} {n : Nat} {l : List Hs} (h : SV w v n 1 (l.map hv)) (hn : n ≤ 1000) (s : Hs) : Calls Try.prog 43 #[v, hv s] w fun e w' => ∃ v', e = .returned v' ∧ SV w' v' (withL s l).length 1 ((withL s l).map hv) ∧ Below w.heap.size w w' := by
  have hl : l.length = n := (sv_name h).1
  refine (with_is ⟨s.toArray⟩ (toB l) v w (sv_ts h) (by simp [toB]; omega)).mono ?_
  rintro e w' ⟨v', rfl, h1, h2⟩
  rw [withB_toB] at h1
  exact ⟨v', rfl, ts_sv h1, h2⟩
/-- a user's role, by the facts -/
def roleF (F : List Fc) (o u : Hs) : Int := if u = [] then 0 else if fct F o [] u < 0 then 0 else ((F[(fct F o [] u).toNat]?).map (·.r)).getD 0
theorem empty_yes {s : ByteArray} {x : Hs} (h : s.toList = x) (e : x = []) : s.toList.isEmpty = true := by rw [h, e]; rfl
theorem empty_no {s : ByteArray} {x : Hs} (h : s.toList = x) (e : x ≠ []) : s.toList.isEmpty = false := by rw [h]; simpa using e
set_option maxRecDepth 100000 in
set_option maxHeartbeats 1000000 in
theorem rrole_is {w : World} {uv ov fv : Value} {R : Rp} (h : RPt w uv ov fv R) (o u : Hs) : Calls Try.prog 46 #[.agg #[uv, ov, fv], hv o, hv u] w fun e w' => e = .returned (iv (roleF R.F o u)) ∧ Below w.heap.size w w' := by
  obtain ⟨m, hm⟩ : ∃ m, R.F.length = m := ⟨_, rfl⟩
  obtain ⟨a, c, rfl, _⟩ := h.f
  rw [hm] at h ⊢
  obtain ⟨so, hso, hlo, _⟩ := bs_is o
  obtain ⟨su, hsu, hlu, _⟩ := bs_is u
  obtain ⟨A, hA⟩ : ∃ A, w.alloc (.cells #[uv, ov, .slice a m c] 30) = A := ⟨_, rfl⟩
  obtain ⟨b3, hb3⟩ : ∃ b, w.heap.size = b := ⟨_, rfl⟩
  have hB : Below w.heap.size w A := by rw [← hA]; exact below_al _ _
  have hbk : Blk A b3 30 [uv, ov, .slice a m c] := by rw [← hA, ← hb3]; exact Blk.new w _ _
  obtain ⟨K, hK⟩ : ∃ K, fct R.F o [] u = K := ⟨_, rfl⟩
  have HC : Calls Try.prog 47 #[.agg #[uv, ov, .slice a m c], hv o, .string ⟨#[]⟩, hv u] A fun e w' => e = .returned (iv K) ∧ Below A.heap.size A w' := by rw [← hK]; exact rfact_is (h.below hB) o [] u
  rw [hso, hsu] at HC
  have HH : Hid (RPt A uv ov (.slice a m c) R ∧ R.F.length = m ∧ Below w.heap.size w A ∧ Blk A b3 30 [uv, ov, .slice a m c] ∧ fct R.F o [] u = K) := ⟨h.below hB, hm, hB, hbk, hK⟩
  have HU : Hid (su.toList = u) := hlu
  obtain ⟨r, hr⟩ : ∃ r, roleF R.F o u = r := ⟨_, rfl⟩
  have HR : Hid (roleF R.F o u = r) := hr
  rw [hr, hso, hsu]
  have qm : (m : Int) ≤ 100000 := by have := h.nf; omega
  clear h hm hso hsu hlo hlu hB hbk hK hr
  go_enter Try.func46, Try.ntmps46
  go_wp2_with (with_reducible change wpList _ _ _ ({ dst := some 8, op := _, type := _, pos := _, after := _, guard := _ } :: _) _ _; refine Hid.out ?_)
  show wpList _ _ _ _ _ _
  refine wpList_load_row rfl 30 (.tmp 3) rfl b3 rfl 30 #[uv, ov, .slice a m c] (0, 0) _ HH.out.2.2.2.1 Try.underlying30 rfl size30 ?_
  simp only [Act.put, List.setIfInBounds_toArray, List.set_cons_zero, List.set_cons_succ]
  go_wp2_with fail
  refine HC.mono ?_
  rintro e V ⟨rfl, hbV⟩
  have HV : Hid (Below w.heap.size w V ∧ Blk V b3 30 [uv, ov, .slice a m c] ∧ RPt V uv ov (.slice a m c) R) := ⟨below_tr HH.out.2.2.1 hbV, HH.out.2.2.2.1.below hbV HH.out.2.2.2.1.lt, HH.out.1.below hbV⟩
  have c2 : V.cell? ⟨b3, 2, none⟩ = some (.slice a m c) := HV.out.2.1.cell rfl
  clear HC hbV hA hb3
  by_cases hu : u = []
  · have e1 := empty_yes HU.out hu
    have HE : Hid (r = 0) := by show _ = _; rw [← HR.out]; unfold roleF; rw [if_pos hu]
    clear hu
    go_wp2
    go_ret
    exact ⟨by rw [HE.out]; rfl, HV.out.1⟩
  · have e1 := empty_no HU.out hu
    by_cases hK0 : K < 0
    · have HE : Hid (r = 0) := by show _ = _; rw [← HR.out]; unfold roleF; rw [if_neg hu, HH.out.2.2.2.2, if_pos hK0]
      clear hu
      go_wp2
      go_ret
      exact ⟨by rw [HE.out]; rfl, HV.out.1⟩
    · obtain ⟨k, f, hk, hf, _⟩ : ∃ (k : Nat) (f : Fc), K = k ∧ R.F[k]? = some f ∧ True := by
        rcases fct_cases R.F o [] u with ⟨e, _⟩ | ⟨k, f, e, hf, _⟩
        · rw [HH.out.2.2.2.2] at e; omega
        · exact ⟨k, f, by rw [← HH.out.2.2.2.2]; exact e, hf, trivial⟩
      have HE : Hid (r = f.r) := by
        show _ = _
        rw [← HR.out]
        unfold roleF
        rw [if_neg hu, HH.out.2.2.2.2, if_neg hK0, hk]
        simp [hf]
      subst hk
      have q2 : k < m := by have := (List.getElem?_eq_some_iff.1 hf).1; have := HH.out.2.1; omega
      have q1 : (k : Int) < (m : Int) := by omega
      have hsv := HV.out.2.2.f
      rw [HH.out.2.1] at hsv
      obtain ⟨g, c', f', ha, _, hf', _, _, _, c3⟩ := (sv_fact hsv).2 k q2
      cases ha
      rw [hf] at hf'
      cases hf'
      clear hu hf hsv hK0
      go_wp2
      go_ret
      exact ⟨by rw [HE.out]; rfl, HV.out.1⟩
#print axioms rrole_is
/-- the members, the teams, by the facts -/
def memF (F : List Fc) (o : Hs) : List Hs := (F.filter (fun f => f.o == o && f.t == [])).foldl (fun l f => withL f.u l) []
def teaF (F : List Fc) (o : Hs) : List Hs := (F.filter (fun f => f.o == o && f.t != [] && f.u == [])).foldl (fun l f => withL f.t l) []
theorem withL_len (s : Hs) : ∀ l, (withL s l).length ≤ l.length + 1
  | [] => by simp [withL]
  | x :: l => by
    unfold withL
    have := withL_len s l
    split
    · simp; omega
    · split <;> simp
theorem fold_len (g : Fc → Hs) : ∀ (F : List Fc) (l : List Hs), (F.foldl (fun l f => withL (g f) l) l).length ≤ l.length + F.length
  | [], l => by simp
  | f :: t, l => by
    have h1 := fold_len g t (withL (g f) l)
    have h2 := withL_len (g f) l
    simp only [List.foldl_cons, List.length_cons]
    omega
theorem take_snoc {α : Type} {l : List α} {s : Nat} {x : α} (h : l[s]? = some x) : l.take (s + 1) = l.take s ++ [x] := by
  obtain ⟨h1, h2⟩ := List.getElem?_eq_some_iff.1 h
  rw [List.take_succ_eq_append_getElem h1, h2]
theorem memF_len (F : List Fc) (o : Hs) : (memF F o).length ≤ F.length := by
  have h1 := fold_len (·.u) (F.filter (fun f => f.o == o && f.t == [])) []
  have h2 := List.length_filter_le (fun f : Fc => f.o == o && f.t == []) F
  unfold memF
  simp only [List.length_nil, Nat.zero_add] at h1
  omega
theorem teaF_len (F : List Fc) (o : Hs) : (teaF F o).length ≤ F.length := by
  have h1 := fold_len (·.t) (F.filter (fun f => f.o == o && f.t != [] && f.u == [])) []
  have h2 := List.length_filter_le (fun f : Fc => f.o == o && f.t != [] && f.u == []) F
  unfold teaF
  simp only [List.length_nil, Nat.zero_add] at h1
  omega
theorem memF_snoc (F : List Fc) (f : Fc) (o : Hs) : memF (F ++ [f]) o = if f.o = o ∧ f.t = [] then withL f.u (memF F o) else memF F o := by
  unfold memF
  rw [List.filter_append, List.foldl_append]
  by_cases h : f.o = o ∧ f.t = []
  · rw [if_pos h]; simp [h.1, h.2]
  · rw [if_neg h]
    have e : (f.o == o && f.t == []) = false := by
      by_cases h1 : f.o = o
      · by_cases h2 : f.t = []
        · exact absurd ⟨h1, h2⟩ h
        · simp [h2]
      · simp [h1]
    rw [List.filter_cons, e]
    rfl
theorem teaF_snoc (F : List Fc) (f : Fc) (o : Hs) : teaF (F ++ [f]) o = if f.o = o ∧ f.t ≠ [] ∧ f.u = [] then withL f.t (teaF F o) else teaF F o := by
  unfold teaF
  rw [List.filter_append, List.foldl_append]
  by_cases h : f.o = o ∧ f.t ≠ [] ∧ f.u = []
  · rw [if_pos h]; simp [h.1, h.2.1, h.2.2]
  · rw [if_neg h]
    have e : (f.o == o && f.t != [] && f.u == []) = false := by
      by_cases h1 : f.o = o
      · by_cases h2 : f.t = []
        · simp [h2]
        · by_cases h3 : f.u = []
          · exact absurd ⟨h1, h2, h3⟩ h
          · simp [h3]
      · simp [h1]
    rw [List.filter_cons, e]
    rfl
set_option maxRecDepth 100000 in
set_option maxHeartbeats 2000000 in
theorem rmembers_is {w : World} {uv ov fv : Value} {R : Rp} (h : RPt w uv ov fv R) (hF : R.F.length ≤ 990) (o : Hs) : Calls Try.prog 17 #[.agg #[uv, ov, fv], hv o] w fun e w' => ∃ v, e = .returned v ∧ SV w' v (memF R.F o).length 1 ((memF R.F o).map hv) ∧ Below w.heap.size w w' := by
  obtain ⟨m, hm⟩ : ∃ m, R.F.length = m := ⟨_, rfl⟩
  obtain ⟨a, c, rfl, _⟩ := h.f
  rw [hm] at h ⊢
  obtain ⟨so, hso, hlo, _⟩ := bs_is o
  obtain ⟨A, hA⟩ : ∃ A, w.alloc (.cells #[uv, ov, .slice a m c] 30) = A := ⟨_, rfl⟩
  obtain ⟨b2, hb2⟩ : ∃ b, w.heap.size = b := ⟨_, rfl⟩
  have hB : Below w.heap.size w A := by rw [← hA]; exact below_al _ _
  have hbk : Blk A b2 30 [uv, ov, .slice a m c] := by rw [← hA, ← hb2]; exact Blk.new w _ _
  have HH : Hid (RPt A uv ov (.slice a m c) R ∧ R.F.length = m ∧ Below w.heap.size w A ∧ Blk A b2 30 [uv, ov, .slice a m c] ∧ m ≤ 990) := ⟨h.below hB, hm, hB, hbk, by omega⟩
  have HO : Hid (so.toList = o) := hlo
  rw [hso]
  have qm : (m : Int) ≤ 990 := by omega
  have ca : A.cell? ⟨b2, 2, none⟩ = some (.slice a m c) := hbk.cell rfl
  clear h hF hm hso hlo hB hbk
  go_enter Try.func17, Try.ntmps17
  go_wp2
  go_loopw [6, 5] (fun u v W => ∃ i : Nat, u = iv i ∧ Hid (i ≤ m ∧ Below A.heap.size A W ∧ SV W v (memF (R.F.take i) o).length 1 ((memF (R.F.take i) o).map hv))) (fun u _ _ => m - (intOf u).toNat)
  case atStart => exact ⟨0, rfl, Nat.zero_le _, Below.refl _ _, SV.nil _ 1⟩
  case round =>
    obtain ⟨i, rfl, HI⟩ := hrel
    have cb : wr.cell? ⟨b2, 2, none⟩ = some (.slice a m c) := (HH.out.2.2.2.1.below HI.out.2.1 HH.out.2.2.2.1.lt).cell rfl
    by_cases hi : i = m
    · have q1 : (m : Int) ≤ (i : Int) := by omega
      have HE : Hid (SV wr u5 (memF R.F o).length 1 ((memF R.F o).map hv) ∧ Below w.heap.size w wr) := by
        have h1 := HI.out.2.2
        rw [List.take_of_length_le (by have := HH.out.2.1; omega)] at h1
        exact ⟨h1, below_tr HH.out.2.2.1 HI.out.2.1⟩
      clear hi ca
      go_wp2
      go_ret
      exact ⟨_, rfl, HE.out⟩
    · have HQ : Hid (i < m) := by have := HI.out.1; show _ < _; omega
      have q1 : (i : Int) < (m : Int) := by have := HQ.out; omega
      have q2 : i < m := HQ.out
      have hsv := (HH.out.1.below HI.out.2.1).f
      rw [HH.out.2.1] at hsv
      obtain ⟨g, c', f, ha, hg, hf, c0, c1, c2, _⟩ := (sv_fact hsv).2 i q2
      cases ha
      obtain ⟨fo, hfo, lfo, _⟩ := bs_is f.o
      obtain ⟨ft, hft, lft, _⟩ := bs_is f.t
      obtain ⟨fu, hfu, lfu, _⟩ := bs_is f.u
      have HY : Hid (R.F[i]? = some f ∧ fo.toList = f.o ∧ ft.toList = f.t ∧ fu.toList = f.u) := ⟨hf, lfo, lft, lfu⟩
      have HW := rWith_is HI.out.2.2 (by have h1 := memF_len (R.F.take i) o; have h2 : (R.F.take i).length ≤ i := by rw [List.length_take]; omega
                                         have h3 := HH.out.2.2.2.2; omega) f.u
      rw [hfu] at HW
      rw [hfo] at c0
      rw [hft] at c1
      rw [hfu] at c2
      have HS : Hid (∀ (W : World) (v : Value), SV W v (if f.o = o ∧ f.t = [] then withL f.u (memF (R.F.take i) o) else memF (R.F.take i) o).length 1 ((if f.o = o ∧ f.t = [] then withL f.u (memF (R.F.take i) o) else memF (R.F.take i) o).map hv) → SV W v (memF (R.F.take (i + 1)) o).length 1 ((memF (R.F.take (i + 1)) o).map hv)) := fun W v hh => by
        rw [take_snoc HY.out.1, memF_snoc]
        exact hh
      clear hi hf hfo hft hfu lfo lft lfu hsv hg ca
      by_cases e1 : f.o = o
      · have b1 := beq_yes HY.out.2.1 HO.out e1
        by_cases e2 : f.t = []
        · have b2 := empty_yes HY.out.2.2.1 e2
          have HP : Hid (f.o = o ∧ f.t = []) := ⟨e1, e2⟩
          clear e1 e2
          go_wp2_with fail
          refine HW.mono ?_
          rintro e V5 ⟨v5, rfl, hs5, hb5⟩
          have HE : Hid (i + 1 ≤ m ∧ Below A.heap.size A V5 ∧ SV V5 v5 (memF (R.F.take (i + 1)) o).length 1 ((memF (R.F.take (i + 1)) o).map hv)) := ⟨HQ.out, below_tr HI.out.2.1 hb5, HS.out V5 v5 (by rw [if_pos HP.out]; exact hs5)⟩
          clear HW hs5 hb5
          go_wp2
          go_roundw
          case rel => exact ⟨i + 1, by simp, HE.out⟩
          case measure =>
            have := HQ.out
            simp only [intOf]
            omega
        · have b2 := empty_no HY.out.2.2.1 e2
          have HE : Hid (i + 1 ≤ m ∧ Below A.heap.size A wr ∧ SV wr u5 (memF (R.F.take (i + 1)) o).length 1 ((memF (R.F.take (i + 1)) o).map hv)) := ⟨HQ.out, HI.out.2.1, HS.out wr u5 (by rw [if_neg (fun e => e2 e.2)]; exact HI.out.2.2)⟩
          clear HW e1 e2
          go_wp2
          go_roundw
          case rel => exact ⟨i + 1, by simp, HE.out⟩
          case measure =>
            have := HQ.out
            simp only [intOf]
            omega
      · have b1 := beq_no HY.out.2.1 HO.out e1
        have HE : Hid (i + 1 ≤ m ∧ Below A.heap.size A wr ∧ SV wr u5 (memF (R.F.take (i + 1)) o).length 1 ((memF (R.F.take (i + 1)) o).map hv)) := ⟨HQ.out, HI.out.2.1, HS.out wr u5 (by rw [if_neg (fun e => e1 e.1)]; exact HI.out.2.2)⟩
        clear HW e1
        go_wp2
        go_roundw
        case rel => exact ⟨i + 1, by simp, HE.out⟩
        case measure =>
          have := HQ.out
          simp only [intOf]
          omega
#print axioms rmembers_is
set_option maxRecDepth 100000 in
set_option maxHeartbeats 2000000 in
theorem rteams_is {w : World} {uv ov fv : Value} {R : Rp} (h : RPt w uv ov fv R) (hF : R.F.length ≤ 990) (o : Hs) : Calls Try.prog 19 #[.agg #[uv, ov, fv], hv o] w fun e w' => ∃ v, e = .returned v ∧ SV w' v (teaF R.F o).length 1 ((teaF R.F o).map hv) ∧ Below w.heap.size w w' := by
  obtain ⟨m, hm⟩ : ∃ m, R.F.length = m := ⟨_, rfl⟩
  obtain ⟨a, c, rfl, _⟩ := h.f
  rw [hm] at h ⊢
  obtain ⟨so, hso, hlo, _⟩ := bs_is o
  obtain ⟨A, hA⟩ : ∃ A, w.alloc (.cells #[uv, ov, .slice a m c] 30) = A := ⟨_, rfl⟩
  obtain ⟨b2, hb2⟩ : ∃ b, w.heap.size = b := ⟨_, rfl⟩
  have hB : Below w.heap.size w A := by rw [← hA]; exact below_al _ _
  have hbk : Blk A b2 30 [uv, ov, .slice a m c] := by rw [← hA, ← hb2]; exact Blk.new w _ _
  have HH : Hid (RPt A uv ov (.slice a m c) R ∧ R.F.length = m ∧ Below w.heap.size w A ∧ Blk A b2 30 [uv, ov, .slice a m c] ∧ m ≤ 990) := ⟨h.below hB, hm, hB, hbk, by omega⟩
  have HO : Hid (so.toList = o) := hlo
  rw [hso]
  have qm : (m : Int) ≤ 990 := by omega
  have ca : A.cell? ⟨b2, 2, none⟩ = some (.slice a m c) := hbk.cell rfl
  clear h hF hm hso hlo hB hbk
  go_enter Try.func19, Try.ntmps19
  go_wp2
  go_loopw [6, 5] (fun u v W => ∃ i : Nat, u = iv i ∧ Hid (i ≤ m ∧ Below A.heap.size A W ∧ SV W v (teaF (R.F.take i) o).length 1 ((teaF (R.F.take i) o).map hv))) (fun u _ _ => m - (intOf u).toNat)
  case atStart => exact ⟨0, rfl, Nat.zero_le _, Below.refl _ _, SV.nil _ 1⟩
  case round =>
    obtain ⟨i, rfl, HI⟩ := hrel
    have cb : wr.cell? ⟨b2, 2, none⟩ = some (.slice a m c) := (HH.out.2.2.2.1.below HI.out.2.1 HH.out.2.2.2.1.lt).cell rfl
    by_cases hi : i = m
    · have q1 : (m : Int) ≤ (i : Int) := by omega
      have HE : Hid (SV wr u5 (teaF R.F o).length 1 ((teaF R.F o).map hv) ∧ Below w.heap.size w wr) := by
        have h1 := HI.out.2.2
        rw [List.take_of_length_le (by have := HH.out.2.1; omega)] at h1
        exact ⟨h1, below_tr HH.out.2.2.1 HI.out.2.1⟩
      clear hi ca
      go_wp2
      go_ret
      exact ⟨_, rfl, HE.out⟩
    · have HQ : Hid (i < m) := by have := HI.out.1; show _ < _; omega
      have q1 : (i : Int) < (m : Int) := by have := HQ.out; omega
      have q2 : i < m := HQ.out
      have hsv := (HH.out.1.below HI.out.2.1).f
      rw [HH.out.2.1] at hsv
      obtain ⟨g, c', f, ha, hg, hf, c0, c1, c2, _⟩ := (sv_fact hsv).2 i q2
      cases ha
      obtain ⟨fo, hfo, lfo, _⟩ := bs_is f.o
      obtain ⟨ft, hft, lft, _⟩ := bs_is f.t
      obtain ⟨fu, hfu, lfu, _⟩ := bs_is f.u
      have HY : Hid (R.F[i]? = some f ∧ fo.toList = f.o ∧ ft.toList = f.t ∧ fu.toList = f.u) := ⟨hf, lfo, lft, lfu⟩
      have HW := rWith_is HI.out.2.2 (by have h1 := teaF_len (R.F.take i) o; have h2 : (R.F.take i).length ≤ i := by rw [List.length_take]; omega
                                         have h3 := HH.out.2.2.2.2; omega) f.t
      rw [hft] at HW
      rw [hfo] at c0
      rw [hft] at c1
      rw [hfu] at c2
      have HS : Hid (∀ (W : World) (v : Value), SV W v (if f.o = o ∧ f.t ≠ [] ∧ f.u = [] then withL f.t (teaF (R.F.take i) o) else teaF (R.F.take i) o).length 1 ((if f.o = o ∧ f.t ≠ [] ∧ f.u = [] then withL f.t (teaF (R.F.take i) o) else teaF (R.F.take i) o).map hv) → SV W v (teaF (R.F.take (i + 1)) o).length 1 ((teaF (R.F.take (i + 1)) o).map hv)) := fun W v hh => by
        rw [take_snoc HY.out.1, teaF_snoc]
        exact hh
      clear hi hf hfo hft hfu lfo lft lfu hsv hg ca
      by_cases e1 : f.o = o
      · have b1 := beq_yes HY.out.2.1 HO.out e1
        by_cases e2 : f.t = []
        · have b2 := empty_yes HY.out.2.2.1 e2
          have HE : Hid (i + 1 ≤ m ∧ Below A.heap.size A wr ∧ SV wr u5 (teaF (R.F.take (i + 1)) o).length 1 ((teaF (R.F.take (i + 1)) o).map hv)) := ⟨HQ.out, HI.out.2.1, HS.out wr u5 (by rw [if_neg (fun e => e.2.1 e2)]; exact HI.out.2.2)⟩
          clear HW e1 e2
          go_wp2
          go_roundw
          case rel => exact ⟨i + 1, by simp, HE.out⟩
          case measure =>
            have := HQ.out
            simp only [intOf]
            omega
        · have b2 := empty_no HY.out.2.2.1 e2
          by_cases e3 : f.u = []
          · have b3 := empty_yes HY.out.2.2.2 e3
            have HP : Hid (f.o = o ∧ f.t ≠ [] ∧ f.u = []) := ⟨e1, e2, e3⟩
            clear e1 e2 e3
            go_wp2_with fail
            refine HW.mono ?_
            rintro e V5 ⟨v5, rfl, hs5, hb5⟩
            have HE : Hid (i + 1 ≤ m ∧ Below A.heap.size A V5 ∧ SV V5 v5 (teaF (R.F.take (i + 1)) o).length 1 ((teaF (R.F.take (i + 1)) o).map hv)) := ⟨HQ.out, below_tr HI.out.2.1 hb5, HS.out V5 v5 (by rw [if_pos HP.out]; exact hs5)⟩
            clear HW hs5 hb5
            go_wp2
            go_roundw
            case rel => exact ⟨i + 1, by simp, HE.out⟩
            case measure =>
              have := HQ.out
              simp only [intOf]
              omega
          · have b3 := empty_no HY.out.2.2.2 e3
            have HE : Hid (i + 1 ≤ m ∧ Below A.heap.size A wr ∧ SV wr u5 (teaF (R.F.take (i + 1)) o).length 1 ((teaF (R.F.take (i + 1)) o).map hv)) := ⟨HQ.out, HI.out.2.1, HS.out wr u5 (by rw [if_neg (fun e => e3 e.2.2)]; exact HI.out.2.2)⟩
            clear HW e1 e2 e3
            go_wp2
            go_roundw
            case rel => exact ⟨i + 1, by simp, HE.out⟩
            case measure =>
              have := HQ.out
              simp only [intOf]
              omega
      · have b1 := beq_no HY.out.2.1 HO.out e1
        have HE : Hid (i + 1 ≤ m ∧ Below A.heap.size A wr ∧ SV wr u5 (teaF (R.F.take (i + 1)) o).length 1 ((teaF (R.F.take (i + 1)) o).map hv)) := ⟨HQ.out, HI.out.2.1, HS.out wr u5 (by rw [if_neg (fun e => e1 e.1)]; exact HI.out.2.2)⟩
        clear HW e1
        go_wp2
        go_roundw
        case rel => exact ⟨i + 1, by simp, HE.out⟩
        case measure =>
          have := HQ.out
          simp only [intOf]
          omega
#print axioms rteams_is
end Go.Proofs.Ytfickhhfhdhcbaa.Oct
