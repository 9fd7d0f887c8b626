/-
  Layer 15 (people): the document's people: rows, has, fact, Role.
-/
import Derived.Test.YtfickhhfhdhcbaaRefName
namespace Go.Proofs.Ytfickhhfhdhcbaa.Oct
open Go.RowKit
set_option linter.unusedSimpArgs false
set_option linter.unusedVariables false

theorem bs_is (x : Hs) : ∃ s : ByteArray, hv x = .string s ∧ s.toList = x ∧ s.size = x.length := ⟨⟨x.toArray⟩, rfl, by rw [ByteArray.toList_eq], by simp [ByteArray.size]⟩
theorem beq_no {a b : ByteArray} {x y : Hs} (ha : a.toList = x) (hb : b.toList = y) (h : x ≠ y) : (a.toList == b.toList) = false := by rw [ha, hb]; simpa using h
theorem beq_yes {a b : ByteArray} {x y : Hs} (ha : a.toList = x) (hb : b.toList = y) (h : x = y) : (a.toList == b.toList) = true := by rw [ha, hb]; simpa using h
/-- a row that is read -/
def SV (w : World) (v : Value) (n sz : Nat) (cs : List Value) : Prop := ∃ a c, v = .slice a n c ∧ n ≤ c ∧ c ≤ maxLen ∧ cs.length = n * sz ∧ (∀ u ∈ cs, u.oneCell' = true) ∧ ((a = none ∧ c = 0) ∨ ∃ g, a = some ⟨g, 0, none⟩ ∧ g < w.heap.size ∧ ∀ j u, cs[j]? = some u → w.cell? ⟨g, j, none⟩ = some u)
theorem SV.below {w w' : World} {v : Value} {n sz : Nat} {cs : List Value} (h : SV w v n sz cs) (hb : Below w.heap.size w w') : SV w' v n sz cs := by
  obtain ⟨a, c, rfl, h1, h2, h3, h4, h5⟩ := h
  refine ⟨a, c, rfl, h1, h2, h3, h4, h5.imp id ?_⟩
  rintro ⟨g, rfl, hg, hc⟩
  exact ⟨g, rfl, Nat.lt_of_lt_of_le hg hb.size, fun j u hu => (hb.cell (p := ⟨g, j, none⟩) hg).trans (hc j u hu)⟩
theorem SV.nil (w : World) (sz : Nat) : SV w (.slice none 0 0) 0 sz [] := ⟨none, 0, rfl, Nat.le_refl _, by unfold maxLen; omega, by simp, by simp, .inl ⟨rfl, rfl⟩⟩
theorem SV.own {w : World} {B e sz n : Nat} {v : Value} {cs : List Value} (h : w.ownsRow B e sz v n cs) (h1 : ∀ u ∈ cs, u.oneCell' = true) : SV w v n sz cs := by
  rcases h.2 with ⟨rfl, rfl⟩ | ⟨g, cap, cur, rfl, hB, hb, hn, hc, hsz, ht⟩
  · exact ⟨none, 0, rfl, Nat.le_refl _, by unfold maxLen; omega, h.1, h1, .inl ⟨rfl, rfl⟩⟩
  · refine ⟨_, cap, rfl, hn, hc, h.1, h1, .inr ⟨g, rfl, lt_of_block hb, fun j u hu => ?_⟩⟩
    rw [cell_of_row w g j _ e (0, 0) hb]
    rw [← ht, List.getElem?_take] at hu
    split at hu
    · simpa using hu
    · cases hu
theorem SV.one {w : World} {v : Value} {n sz : Nat} {cs : List Value} (h : SV w v n sz cs) : v.oneCell' = true ∧ v.cells = #[v] := by
  obtain ⟨a, c, rfl, _⟩ := h
  exact ⟨rfl, rfl⟩
theorem hv_one (l : List Hs) : ∀ u ∈ l.map hv, u.oneCell' = true := by
  intro u hu
  obtain ⟨x, _, rfl⟩ := List.mem_map.1 hu
  rfl
/-- a fact -/
structure Fc where
  o : Hs
  t : Hs
  u : Hs
  r : Int
def Fc.cells (f : Fc) : List Value := [hv f.o, hv f.t, hv f.u, iv f.r]
def fcC (F : List Fc) : List Value := F.flatMap Fc.cells
theorem fcC_one (F : List Fc) : ∀ u ∈ fcC F, u.oneCell' = true := by
  intro u hu
  obtain ⟨f, _, hf⟩ := List.mem_flatMap.1 hu
  simp [Fc.cells] at hf
  rcases hf with rfl | rfl | rfl | rfl <;> rfl
theorem fcC_len (F : List Fc) : (fcC F).length = F.length * 4 := by
  induction F with
  | nil => rfl
  | cons f t ih => simp [fcC, Fc.cells] at ih ⊢; omega
theorem flatN {α : Type} {f : α → List Value} {k : Nat} (hf : ∀ a, (f a).length = k) : ∀ {l : List α} {i : Nat} {a : α}, l[i]? = some a → ∀ j u, (f a)[j]? = some u → (l.flatMap f)[i * k + j]? = some u
  | [], i, a, h, _, _, _ => by simp at h
  | b :: t, 0, a, h, j, u, hj => by
    simp at h
    subst h
    have hj3 : j < k := by have := (List.getElem?_eq_some_iff.1 hj).1; rw [hf] at this; exact this
    rw [List.flatMap_cons, List.getElem?_append_left (by rw [hf]; omega)]
    simpa using hj
  | b :: t, i + 1, a, h, j, u, hj => by
    have := flatN hf (l := t) (by simpa using h) j u hj
    rw [List.flatMap_cons, List.getElem?_append_right (by rw [hf, Nat.add_mul]; omega), hf, show (i + 1) * k + j - k = i * k + j by rw [Nat.add_mul]; omega]
    exact this
/-- the document's people -/
structure Rp where
  U : List Hs
  O : List Hs
  F : List Fc
structure RPt (w : World) (uv ov fv : Value) (R : Rp) : Prop where
  u : SV w uv R.U.length 1 (R.U.map hv)
  o : SV w ov R.O.length 1 (R.O.map hv)
  f : SV w fv R.F.length 4 (fcC R.F)
  nu : R.U.length ≤ 1000
  no : R.O.length ≤ 1000
  nf : R.F.length ≤ 100000
theorem RPt.below {w w' : World} {uv ov fv : Value} {R : Rp} (h : RPt w uv ov fv R) (hb : Below w.heap.size w w') : RPt w' uv ov fv R := ⟨h.u.below hb, h.o.below hb, h.f.below hb, h.nu, h.no, h.nf⟩
theorem size30 : (Try.prog.info? 30).map (·.size) = some 3 := by kernel_rfl
theorem zero30 (W : World) : (zeroValue 30).run Try.prog W = .ok (.agg #[.slice none 0 0, .slice none 0 0, .slice none 0 0]) W := by kernel_rfl
/-- names that are read -/
theorem sv_name {w : World} {v : Value} {n : Nat} {l : List Hs} (h : SV w v n 1 (l.map hv)) : l.length = n ∧ ∀ i, i < n → ∃ g c x, v = .slice (some ⟨g, 0, none⟩) n c ∧ g < w.heap.size ∧ l[i]? = some x ∧ w.cell? ⟨g, i, none⟩ = some (hv x) := by
  obtain ⟨a, c, rfl, h1, h2, h3, h4, h5⟩ := h
  have hl : l.length = n := by simpa using h3
  refine ⟨hl, fun i hi => ?_⟩
  rcases h5 with ⟨_, rfl⟩ | ⟨g, rfl, hg, hc⟩
  · omega
  · obtain ⟨x, hx⟩ : ∃ x, l[i]? = some x := ⟨_, List.getElem?_eq_getElem (by omega)⟩
    exact ⟨g, c, x, rfl, hg, hx, hc i _ (by simp [hx])⟩
set_option maxRecDepth 100000 in
theorem rhas_is {w : World} {v : Value} {n : Nat} {l : List Hs} (h : SV w v n 1 (l.map hv)) (hn : n ≤ 1000) (s : Hs) : Calls Try.prog 61 #[v, hv s] w fun e w' => e = .returned (.bool (decide (s ∈ l))) ∧ w = w' := by
  have h' := h
  obtain ⟨a, c, rfl, _⟩ := h'
  have HL : Hid (SV w (.slice a n c) n 1 (l.map hv)) := h
  obtain ⟨ss, hss, hls, _⟩ := bs_is s
  have HS : Hid (ss.toList = s) := hls
  have qn : (n : Int) ≤ 1000 := by omega
  rw [hss]
  obtain ⟨r, hr⟩ : ∃ r, decide (s ∈ l) = r := ⟨_, rfl⟩
  have HR : Hid (decide (s ∈ l) = r) := hr
  rw [hr]
  clear h hn hss hls hr
  go_enter Try.func61, Try.ntmps61
  go_wp2
  go_loopw [5] (fun u W => ∃ i : Nat, u = iv i ∧ Hid (i ≤ n ∧ w = W ∧ ∀ (k : Nat) (y : Hs), k < i → l[k]? = some y → y ≠ s)) (fun u _ => n - (intOf u).toNat)
  case atStart => exact ⟨0, rfl, Nat.zero_le _, rfl, fun k y hk => absurd hk (by omega)⟩
  case round =>
    obtain ⟨i, rfl, HI⟩ := hrel
    by_cases hi : i = n
    · have q1 : (n : Int) ≤ (i : Int) := by omega
      have HF : Hid (r = false ∧ w = wr) := by
        refine ⟨?_, HI.out.2.1⟩
        rw [← HR.out]
        refine decide_eq_false fun hm => ?_
        obtain ⟨k, hk⟩ := List.mem_iff_getElem?.1 hm
        have hl := (List.getElem?_eq_some_iff.1 hk).1
        have h2 := (sv_name HL.out).1
        exact HI.out.2.2 k s (by omega) hk rfl
      clear hi
      go_wp2
      go_ret
      exact ⟨by rw [HF.out.1]; rfl, HF.out.2⟩
    · have HQ : Hid (i < n) := by have := HI.out.1; show _ < _; omega
      have q1 : (i : Int) < (n : Int) := by have := HQ.out; omega
      have q2 : i < n := HQ.out
      obtain ⟨g, c', y, ha, hg, hy, hc⟩ := (sv_name HL.out).2 i q2
      cases ha
      obtain ⟨sy, hsy, hly, _⟩ := bs_is y
      rw [hsy, HI.out.2.1] at hc
      have HY : Hid (l[i]? = some y ∧ sy.toList = y) := ⟨hy, hly⟩
      clear hi hy hsy hly
      by_cases he : y = s
      · have hq := beq_yes HY.out.2 HS.out he
        have HF : Hid (r = true ∧ w = wr) := ⟨by rw [← HR.out, ← he]; exact decide_eq_true (List.mem_of_getElem? HY.out.1), HI.out.2.1⟩
        clear he
        go_wp2
        go_ret
        exact ⟨by rw [HF.out.1]; rfl, HF.out.2⟩
      · have hq := beq_no HY.out.2 HS.out he
        have HF : Hid (i + 1 ≤ n ∧ w = wr ∧ ∀ (k : Nat) (y : Hs), k < i + 1 → l[k]? = some y → y ≠ s) := ⟨HQ.out, HI.out.2.1, fun k z hk hz => by
          by_cases e : k = i
          · subst e; rw [HY.out.1] at hz; cases hz; exact he
          · exact HI.out.2.2 k z (by omega) hz⟩
        clear he
        go_wp2
        go_roundw
        case rel => exact ⟨i + 1, by simp, HF.out⟩
        case measure =>
          have := HQ.out
          simp only [intOf]
          omega
#print axioms rhas_is
/-- where a fact stands -/
def fct (F : List Fc) (o t u : Hs) : Int := match F.findIdx? (fun f => f.o == o && f.t == t && f.u == u) with
  | some k => k
  | none => -1
theorem fct_yes {F : List Fc} {o t u : Hs} {k : Nat} {f : Fc} (h : F[k]? = some f) (hf : f.o = o ∧ f.t = t ∧ f.u = u) (hn : ∀ (j : Nat) (y : Fc), j < k → F[j]? = some y → ¬ (y.o = o ∧ y.t = t ∧ y.u = u)) : fct F o t u = k := by
  have e : F.findIdx? (fun f => f.o == o && f.t == t && f.u == u) = some k := by
    obtain ⟨h1, h2⟩ := List.getElem?_eq_some_iff.1 h
    rw [List.findIdx?_eq_some_iff_getElem]
    refine ⟨h1, by simp [h2, hf.1, hf.2.1, hf.2.2], fun j hj => ?_⟩
    have := hn j F[j] hj (List.getElem?_eq_getElem (by omega))
    simp
    intro e1 e2 e3
    exact this ⟨e1, e2, e3⟩
  unfold fct
  rw [e]
theorem fct_no {F : List Fc} {o t u : Hs} (hn : ∀ (j : Nat) (y : Fc), F[j]? = some y → ¬ (y.o = o ∧ y.t = t ∧ y.u = u)) : fct F o t u = -1 := by
  have e : F.findIdx? (fun f => f.o == o && f.t == t && f.u == u) = none := by
    rw [List.findIdx?_eq_none_iff]
    intro y hy
    obtain ⟨j, hj⟩ := List.mem_iff_getElem?.1 hy
    have := hn j y hj
    simp
    intro e1 e2 e3
    exact this ⟨e1, e2, e3⟩
  unfold fct
  rw [e]
theorem fct_cases (F : List Fc) (o t u : Hs) : (fct F o t u = -1 ∧ ∀ y ∈ F, ¬ (y.o = o ∧ y.t = t ∧ y.u = u)) ∨ ∃ (k : Nat) (f : Fc), fct F o t u = k ∧ F[k]? = some f ∧ (f.o = o ∧ f.t = t ∧ f.u = u) ∧ ∀ (j : Nat) (y : Fc), j < k → F[j]? = some y → ¬ (y.o = o ∧ y.t = t ∧ y.u = u) := by
  cases h : F.findIdx? (fun f => f.o == o && f.t == t && f.u == u) with
  | none =>
    left
    refine ⟨by unfold fct; rw [h], fun y hy e => ?_⟩
    rw [List.findIdx?_eq_none_iff] at h
    have := h y hy
    simp [e.1, e.2.1, e.2.2] at this
  | some k =>
    right
    rw [List.findIdx?_eq_some_iff_getElem] at h
    obtain ⟨h1, h2, h3⟩ := h
    have hk : F[k]? = some F[k] := List.getElem?_eq_getElem h1
    have hf : F[k].o = o ∧ F[k].t = t ∧ F[k].u = u := by simpa [and_assoc] using h2
    have hn : ∀ (j : Nat) (y : Fc), j < k → F[j]? = some y → ¬ (y.o = o ∧ y.t = t ∧ y.u = u) := fun j y hj hy e => by
      have := h3 j hj
      obtain ⟨hl, hyy⟩ := List.getElem?_eq_some_iff.1 hy
      rw [hyy] at this
      simp [e.1, e.2.1, e.2.2] at this
    exact ⟨k, F[k], fct_yes hk hf hn, hk, hf, hn⟩
/-- facts that are read -/
theorem sv_fact {w : World} {v : Value} {n : Nat} {F : List Fc} (h : SV w v n 4 (fcC F)) : F.length = n ∧ ∀ i, i < n → ∃ g c f, v = .slice (some ⟨g, 0, none⟩) n c ∧ g < w.heap.size ∧ F[i]? = some f ∧ w.cell? ⟨g, i * 4, none⟩ = some (hv f.o) ∧ w.cell? ⟨g, i * 4 + 1, none⟩ = some (hv f.t) ∧ w.cell? ⟨g, i * 4 + 2, none⟩ = some (hv f.u) ∧ w.cell? ⟨g, i * 4 + 3, none⟩ = some (iv f.r) := by
  obtain ⟨a, c, rfl, h1, h2, h3, h4, h5⟩ := h
  have hl : F.length = n := by rw [fcC_len] at h3; omega
  refine ⟨hl, fun i hi => ?_⟩
  rcases h5 with ⟨_, rfl⟩ | ⟨g, rfl, hg, hc⟩
  · omega
  · obtain ⟨f, hf⟩ : ∃ f, F[i]? = some f := ⟨_, List.getElem?_eq_getElem (by omega)⟩
    have hx := fun j u hu => hc (i * 4 + j) u (flatN (f := Fc.cells) (fun _ => rfl) hf j u hu)
    exact ⟨g, c, f, rfl, hg, hf, hx 0 _ rfl, hx 1 _ rfl, hx 2 _ rfl, hx 3 _ rfl⟩
set_option maxRecDepth 100000 in
set_option maxHeartbeats 1000000 in
theorem rfact_is {w : World} {uv ov fv : Value} {R : Rp} (h : RPt w uv ov fv R) (o t u : Hs) : Calls Try.prog 47 #[.agg #[uv, ov, fv], hv o, hv t, hv u] w fun e w' => e = .returned (iv (fct R.F o t u)) ∧ Below w.heap.size w w' := by
  obtain ⟨m, hm⟩ : ∃ m, R.F.length = m := ⟨_, rfl⟩
  obtain ⟨ua, uc, rfl, _⟩ := h.u
  obtain ⟨oa, oc, rfl, _⟩ := h.o
  obtain ⟨a, c, rfl, _⟩ := h.f
  rw [hm]
  obtain ⟨nu, hnu⟩ : ∃ m, R.U.length = m := ⟨_, rfl⟩
  obtain ⟨no, hno⟩ : ∃ m, R.O.length = m := ⟨_, rfl⟩
  rw [hnu, hno]
  obtain ⟨so, hso, hlo, _⟩ := bs_is o
  obtain ⟨st, hst, hlt, _⟩ := bs_is t
  obtain ⟨su, hsu, hlu, _⟩ := bs_is u
  have HS : Hid (so.toList = o ∧ st.toList = t ∧ su.toList = u) := ⟨hlo, hlt, hlu⟩
  rw [hso, hst, hsu]
  obtain ⟨A, hA⟩ : ∃ A, w.alloc (.cells #[.slice ua nu uc, .slice oa no oc, .slice a m c] 30) = A := ⟨_, rfl⟩
  obtain ⟨b4, hb4⟩ : ∃ b, w.heap.size = b := ⟨_, rfl⟩
  have hB : Below w.heap.size w A := by rw [← hA]; exact below_al _ _
  have cb : A.cell? ⟨b4, 2, none⟩ = some (.slice a m c) := by rw [← hA, ← hb4]; exact (Blk.new w #[.slice ua nu uc, .slice oa no oc, .slice a m c] 30).cell rfl
  have HF : Hid (SV A (.slice a m c) m 4 (fcC R.F) ∧ Below w.heap.size w A) := ⟨by have := h.f.below hB; rwa [hm] at this, hB⟩
  have qn : (m : Int) ≤ 100000 := by have := h.nf; omega
  obtain ⟨k0, hk0⟩ : ∃ k, fct R.F o t u = k := ⟨_, rfl⟩
  have HK : Hid (fct R.F o t u = k0) := hk0
  rw [hk0]
  clear h hm hnu hno hso hst hsu hlo hlt hlu hB hk0
  go_enter Try.func47, Try.ntmps47
  go_wp2
  go_loopw [9] (fun v W => ∃ i : Nat, v = iv i ∧ Hid (i ≤ m ∧ A = W ∧ ∀ (k : Nat) (y : Fc), k < i → R.F[k]? = some y → ¬ (y.o = o ∧ y.t = t ∧ y.u = u))) (fun v _ => m - (intOf v).toNat)
  case atStart => exact ⟨0, rfl, Nat.zero_le _, rfl, fun k y hk => absurd hk (by omega)⟩
  case round =>
    obtain ⟨i, rfl, HI⟩ := hrel
    have cb' : wr.cell? ⟨b4, 2, none⟩ = some (.slice a m c) := by rw [← HI.out.2.1]; exact cb
    by_cases hi : i = m
    · have q1 : (m : Int) ≤ (i : Int) := by omega
      have HE : Hid (k0 = -1 ∧ Below w.heap.size w wr) := ⟨by
        rw [← HK.out]
        refine fct_no fun k y hy => HI.out.2.2 k y ?_ hy
        have h1 := (List.getElem?_eq_some_iff.1 hy).1
        have h2 := (sv_fact HF.out.1).1
        omega, by rw [← HI.out.2.1]; exact HF.out.2⟩
      clear hi cb
      go_wp2
      go_ret
      exact ⟨by rw [HE.out.1]; rfl, HE.out.2⟩
    · have HQ : Hid (i < m) := by have := HI.out.1; show _ < _; omega
      have q1 : (i : Int) < (m : Int) := by have := HQ.out; omega
      have q2 : i < m := HQ.out
      obtain ⟨g, c', f, ha, hg, hf, c0, c1, c2, _⟩ := (sv_fact HF.out.1).2 i q2
      cases ha
      obtain ⟨fo, hfo, lfo, _⟩ := bs_is f.o
      obtain ⟨ft, hft, lft, _⟩ := bs_is f.t
      obtain ⟨fu, hfu, lfu, _⟩ := bs_is f.u
      rw [hfo, HI.out.2.1] at c0
      rw [hft, HI.out.2.1] at c1
      rw [hfu, HI.out.2.1] at c2
      have HY : Hid (R.F[i]? = some f ∧ fo.toList = f.o ∧ ft.toList = f.t ∧ fu.toList = f.u) := ⟨hf, lfo, lft, lfu⟩
      have HN : Hid (¬ (f.o = o ∧ f.t = t ∧ f.u = u) → (i + 1 ≤ m ∧ A = wr ∧ ∀ (k : Nat) (y : Fc), k < i + 1 → R.F[k]? = some y → ¬ (y.o = o ∧ y.t = t ∧ y.u = u))) := fun he => ⟨HQ.out, HI.out.2.1, fun k z hk hz => by
        by_cases e : k = i
        · subst e; rw [HY.out.1] at hz; cases hz; exact he
        · exact HI.out.2.2 k z (by omega) hz⟩
      clear hi hf hfo hft hfu lfo lft lfu cb hg
      by_cases e1 : f.o = o
      · have b1 := beq_yes HY.out.2.1 HS.out.1 e1
        by_cases e2 : f.t = t
        · have b2 := beq_yes HY.out.2.2.1 HS.out.2.1 e2
          by_cases e3 : f.u = u
          · have b3 := beq_yes HY.out.2.2.2 HS.out.2.2 e3
            have HE : Hid (k0 = i ∧ Below w.heap.size w wr) := ⟨by rw [← HK.out]; exact fct_yes HY.out.1 ⟨e1, e2, e3⟩ HI.out.2.2, by rw [← HI.out.2.1]; exact HF.out.2⟩
            clear e1 e2 e3
            go_wp2
            go_ret
            exact ⟨by rw [HE.out.1]; rfl, HE.out.2⟩
          · have b3 := beq_no HY.out.2.2.2 HS.out.2.2 e3
            have HE : Hid _ := HN.out (fun e => e3 e.2.2)
            clear e1 e2 e3
            go_wp2
            go_roundw
            case rel => exact ⟨i + 1, by simp, HE.out⟩
            case measure =>
              have := HQ.out
              simp only [intOf]
              omega
        · have b2 := beq_no HY.out.2.2.1 HS.out.2.1 e2
          have HE : Hid _ := HN.out (fun e => e2 e.2.1)
          clear e1 e2
          go_wp2
          go_roundw
          case rel => exact ⟨i + 1, by simp, HE.out⟩
          case measure =>
            have := HQ.out
            simp only [intOf]
            omega
      · have b1 := beq_no HY.out.2.1 HS.out.1 e1
        have HE : Hid _ := HN.out (fun e => e1 e.1)
        clear e1
        go_wp2
        go_roundw
        case rel => exact ⟨i + 1, by simp, HE.out⟩
        case measure =>
          have := HQ.out
          simp only [intOf]
          omega
#print axioms rfact_is
end Go.Proofs.Ytfickhhfhdhcbaa.Oct
