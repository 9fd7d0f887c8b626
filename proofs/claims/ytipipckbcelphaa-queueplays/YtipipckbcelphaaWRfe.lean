/-
  Layer 21 (queue): the reference: end, Drop.
-/
import Derived.Test.YtipipckbcelphaaWRfr
namespace Go.Proofs.Ytipipckbcelphaa.Oct
open Go.RowKit Go.Shelf
set_option linter.unusedSimpArgs false
set_option linter.unusedVariables false

theorem Rd.one38 (w : World) (x : Int × Int × Int) : Rd (w.alloc (.cells (qd x).toArray 38)) 38 3 (some ⟨w.heap.size, 0, none⟩) 1 (qd x) :=
  ⟨rfl, qd_one x, fun _ => ⟨w.heap.size, 0, rfl, by show _ < _; simp, fun j u hu => range_new w (qd x) 38 j u hu⟩⟩
/-- what end of the reference leaves -/
def REndP (w : World) (l : List Int) (E : List (Int × Int × Int)) (wv' ev' : Value) (w' : World) : Prop :=
  RQ w' wv' ev' l E ∧ Below w.heap.size w w' ∧ (∀ g, blkOf wv' = some g → w.heap.size ≤ g) ∧ ∀ g, blkOf ev' = some g → w.heap.size ≤ g
theorem ret30' {R : Ending → World → Prop} {fn : Func} {pt : Tmp} {a : Act} {w : World} {g : Nat} {X : List Value} (hr : fn.results = #[.cell pt 30]) (hd : a.defers = []) (hp : a.tmps.getD pt undef = .pointer (some ⟨g, 0, none⟩)) (hl : X.length = 2)
    (hb : Blk w g 30 X) (hR : R (.returned (.agg X.toArray)) w) : bodyPost Try.prog fn R .ret a w :=
  bodyPost_ret (results_cell_row hr _ w g 30 X.toArray (0, 0) _ hp hb Try.underlying30 rfl (by rw [List.size_toArray, hl]; exact size30)) hd hR
set_option maxRecDepth 100000 in
set_option maxHeartbeats 4000000 in
theorem rend_is {w : World} {wv ev : Value} {l : List Int} {E : List (Int × Int × Int)} (h : RQ w wv ev l E) (hE9 : E.length + 1 ≤ 3000000000000) {k : Nat} {x : Int} (hx : l[k]? = some x) (hf : ∀ (j : Nat) (y : Int), j < k → l[j]? = some y → y ≠ x) (how why : Int) :
    Calls Try.prog 39 #[.agg #[wv, ev], iv x, iv how, iv why] w fun e w' => ∃ wv' ev', e = .returned (.agg #[wv', ev']) ∧ REndP w (l.eraseIdx k) (E ++ [(x, how, why)]) wv' ev' w' := by
  have hpl : plc l x = k := plc_yes hx hf
  have hkl : k < l.length := (List.getElem?_eq_some_iff.1 hx).1
  obtain ⟨a, c, a', c', rfl, rfl⟩ := h.shape
  obtain ⟨n, hn⟩ : ∃ n, l.length = n := ⟨_, rfl⟩
  obtain ⟨m, hm⟩ : ∃ m, E.length = m := ⟨_, rfl⟩
  have HRQ : Hid (RQ w (.slice a n c) (.slice a' m c') l E) := by rw [← hn, ← hm]; exact h
  rw [hn, hm]
  rw [hn] at hkl
  obtain ⟨g, rfl⟩ : ∃ g, a = some ⟨g, 0, none⟩ := by
    obtain ⟨a9, c9, e9, _, _, h9, _⟩ := HRQ.out.wr
    rw [hn] at e9 h9
    cases e9
    obtain ⟨g, off, rfl, _⟩ := h9.2.2 (by omega)
    have := HRQ.out.wz _ _ _ rfl
    simp at this
    subst this
    exact ⟨g, rfl⟩
  have HRD : Hid (Rd w 3 1 (some ⟨g, 0, none⟩) n (ivs l) ∧ n ≤ c ∧ g < w.heap.size) := by
    obtain ⟨a9, c9, e9, h1, _, h9, _, h5⟩ := HRQ.out.wr
    rw [hn] at e9 h9 h1
    cases e9
    exact ⟨h9, h1, h5 _ rfl⟩
  have HRE : Hid (Rd w 38 3 a' m (qdC E)) := by
    obtain ⟨a9, c9, e9, h1, _, h9, _, h5⟩ := HRQ.out.er
    rw [hm] at e9 h9
    cases e9
    exact h9
  have hz30 := zero30
  have hz38 := zero38
  obtain ⟨b4, hb4⟩ : ∃ b, w.heap.size = b := ⟨_, rfl⟩
  obtain ⟨A, hA⟩ : ∃ A, (w.alloc (.cells #[.slice (some ⟨g, 0, none⟩) n c, .slice a' m c'] 30)).alloc (.cells #[.slice none 0 0, .slice none 0 0] 30) = A := ⟨_, rfl⟩
  have hB : Below w.heap.size w A := by rw [← hA]; exact ((Below.refl _ w).alloc (Nat.le_refl _) _).alloc (by simp) _
  have h4 : Blk A b4 30 [.slice (some ⟨g, 0, none⟩) n c, .slice a' m c'] := by rw [← hA, ← hb4]; exact (Blk.new w _ _).alloc _
  have h8 : Blk A (b4 + 1) 30 [.slice none 0 0, .slice none 0 0] := by
    rw [← hA, ← hb4]
    have := Blk.new (w.alloc (.cells #[.slice (some ⟨g, 0, none⟩) n c, .slice a' m c'] 30)) #[.slice none 0 0, .slice none 0 0] 30
    rwa [World.size_alloc] at this
  have cb : A.cell? ⟨b4, 0, none⟩ = some (.slice (some ⟨g, 0, none⟩) n c) := h4.cell rfl
  have cb1 : A.cell? ⟨b4, 1, none⟩ = some (.slice a' m c') := h4.cell rfl
  have HP := rplace_is (HRQ.out.below hB) x
  rw [hpl] at HP
  have HB : Hid (Below w.heap.size w A ∧ Blk A b4 30 [.slice (some ⟨g, 0, none⟩) n c, .slice a' m c'] ∧ Blk A (b4 + 1) 30 [.slice none 0 0, .slice none 0 0] ∧ l.length = n ∧ E.length = m ∧ w.heap.size = b4) := ⟨hB, h4, h8, hn, hm, hb4⟩
  have HKN : Hid (k < n ∧ n ≤ 1000 ∧ m + 1 ≤ 3000000000000) := ⟨hkl, by have := h.nW; omega, by omega⟩
  obtain ⟨i0, hi0, hs1, hby, z, hz, hzs⟩ := sized3
  have HI0 : Hid (Try.prog.info? 3 = some i0 ∧ i0.zero = some z ∧ i0.size = 1 ∧ i0.bytes ≤ 24 ∧ z.cells.size = 1) := ⟨hi0, hz, hs1, by omega, hzs⟩
  obtain ⟨j0, hj0, hjs1, hjby, jz, hjz, hjzs⟩ := sized38
  have HJ0 : Hid (Try.prog.info? 38 = some j0 ∧ j0.zero = some jz ∧ j0.size = 3 ∧ j0.bytes ≤ 24 ∧ jz.cells.size = 3) := ⟨hj0, hjz, hjs1, by omega, hjzs⟩
  obtain ⟨i1, hu1, hu2, hu3⟩ := u27
  have HU : Hid (Try.prog.underlying 27 = some (.slice (Try.prog.elem 27)) ∧ Try.prog.info? (Try.prog.elem 27) = some i1 ∧ i1.size = 1) := ⟨hu1, hu2, hu3⟩
  obtain ⟨o1, ho1⟩ : ∃ o, o = if c = k + 1 then 0 else k + 1 := ⟨_, rfl⟩
  have HOF : Hid (o1 = if c = k + 1 then 0 else k + 1) := ho1
  have hbs0 := run_bs28_0
  have hbs : ∀ W : World, (Instr.buildSlice 28 1 #[(0, .agg #[iv x, iv how, iv why])]).run Try.prog W = .ok (.slice (some ⟨W.heap.size, 0, none⟩) 1 1) (W.alloc (.cells #[iv x, iv how, iv why] 38)) := fun W => run_bslice Try.underlying28 sized38 (by omega) (qd (x, how, why)) rfl W
  clear h hx hf hpl hkl hE9 hn hm hB h4 h8 hi0 hs1 hby hz hzs hj0 hjs1 hjby hjz hjzs hu1 hu2 hu3 ho1
  go_enter Try.func39, Try.ntmps39
  go_wp2_with fail
  refine HP.mono ?_
  rintro e A2 ⟨rfl, hb2⟩
  have HB2 : Hid (Below w.heap.size w A2 ∧ Blk A2 b4 30 [.slice (some ⟨g, 0, none⟩) n c, .slice a' m c'] ∧ Blk A2 (b4 + 1) 30 [.slice none 0 0, .slice none 0 0]) := ⟨below_tr HB.out.1 hb2, HB.out.2.1.below hb2 HB.out.2.1.lt, HB.out.2.2.1.below hb2 HB.out.2.2.1.lt⟩
  have HL : Hid (b4 < A2.heap.size) := HB2.out.2.1.lt
  have HX : Hid (Blk A2 b4 30 [.slice (some ⟨g, 0, none⟩) n c, .slice a' m c']) := HB2.out.2.1
  have HR : Hid (∀ V, Keep (fun j => j = b4) A2 V → Rd V 3 1 (some ⟨g, 0, none⟩) n (ivs l)) := by
    intro V hV
    have h1 : RV w 3 1 (.slice (some ⟨g, 0, none⟩) n c) n (ivs l) := by
      have := HRQ.out.wr
      rwa [HB.out.2.2.2.1] at this
    have h2 := (h1.below HB2.out.1).keep hV (fun g' hg' e => by cases hg'; have h3 := HRD.out.2.2; have h4 := HB.out.2.2.2.2.2; simp at e; omega)
    obtain ⟨a9, c9, e9, _, _, h9, _⟩ := h2
    cases e9
    exact h9
  have HN : Hid (k < n ∧ n ≤ c ∧ n ≤ 1000) := ⟨HKN.out.1, HRD.out.2.1, HKN.out.2.1⟩
  clear HP hb2 cb cb1
  go_wp2_with fail
  refine rend2 HL HX HR HN HOF HI0 HU ?_
  intro V1 v1 v2 q hm
  have hel : (l.eraseIdx k).length = 0 + k + (n - (k + 1)) := by rw [List.length_eraseIdx, if_pos (by rw [HB.out.2.2.2.1]; exact HKN.out.1), HB.out.2.2.2.1]; have := HKN.out.1; omega
  have hec : ([] : List Value) ++ (ivs l).take (k * 1) ++ (ivs l).drop ((k + 1) * 1) = ivs (l.eraseIdx k) := by
    rw [Nat.mul_one, Nat.mul_one, List.nil_append, List.eraseIdx_eq_take_drop_succ]
    simp [ivs, List.map_take, List.map_drop]
  obtain ⟨ho, hbk, hkp⟩ := hm
  rw [hec, ← hel] at ho
  have hrv := RV.own ho (ivs_one _)
  obtain ⟨a2, c2, hv2, _⟩ := hrv.1
  obtain ⟨n2, hn2⟩ : ∃ n2, (l.eraseIdx k).length = n2 := ⟨_, rfl⟩
  rw [hn2] at hv2
  subst hv2
  have HV1 : Hid (RV V1 3 1 (.slice a2 n2 c2) (l.eraseIdx k).length (ivs (l.eraseIdx k)) ∧ (∀ g, blkOf (.slice a2 n2 c2) = some g → A2.heap.size ≤ g) ∧ (∀ p m c, Value.slice a2 n2 c2 = .slice (some p) m c → p = ⟨p.block, 0, none⟩)) := hrv
  have HK1 : Hid (Blk V1 b4 30 [.slice a2 n2 c2, .slice a' m c'] ∧ Keep (fun j => j = b4) A2 V1 ∧ Blk V1 (b4 + 1) 30 [.slice none 0 0, .slice none 0 0]) := ⟨hbk, hkp, hkp.blk HB2.out.2.2 (by omega)⟩
  have HRE1 : Hid (Rd V1 38 3 a' m (qdC E)) := by
    have h1 : RV w 38 3 (.slice a' m c') m (qdC E) := by
      have := HRQ.out.er
      rwa [HB.out.2.2.2.2.1] at this
    have h2 := (h1.below HB2.out.1).keep hkp (fun g' hg' e => by have h3 := h1.lt hg'; have h4 := HB.out.2.2.2.2.2; omega)
    obtain ⟨a9, c9, e9, _, _, h9, _⟩ := h2
    cases e9
    exact h9
  have c41 : V1.cell? ⟨b4, 1, none⟩ = some (.slice a' m c') := HK1.out.1.cell rfl
  have c41' : (V1.alloc (.cells #[] 38)).cell? ⟨b4, 1, none⟩ = some (.slice a' m c') := (HK1.out.1.alloc _).cell rfl
  clear ho hbk hkp hec hel hrv hn2 HL HX HR HN
  go_wp2_with (with_reducible change wpList _ _ _ ({ dst := some 29, op := _, type := _, pos := _, after := _, guard := _ } :: _) _ _; refine Hid.out ?_)
  show wpList _ _ _ _ _ _
  refine wpList_append_ownR rfl (.tmp 26) (.tmp 28) 28 rfl _ 38 j0 jz 3 V1.heap.size Try.underlying28 HJ0.out.1 HJ0.out.2.1 HJ0.out.2.2.1 HJ0.out.2.2.2.1 HJ0.out.2.2.2.2 (by omega) _ 0 [] (empty_row V1 38 3) a' m c' (qdC E) rfl rfl (HRE1.out.belowS (below_al V1 _)) (by simp) (by have := HKN.out; omega) ?_
  intro v3 W3 ho3 hw3
  simp only [Act.put, List.setIfInBounds_toArray, List.set_cons_zero, List.set_cons_succ]
  have HW3 : Hid (W3.ownsRow V1.heap.size 38 3 v3 m (qdC E) ∧ Below V1.heap.size V1 W3) := ⟨by have := ho3.out; rwa [Nat.zero_add, List.nil_append] at this, (below_al V1 _).trans hw3.out⟩
  clear ho3 hw3 c41'
  go_wp2_with (with_reducible change wpList _ _ _ ({ dst := some 35, op := _, type := _, pos := _, after := _, guard := _ } :: _) _ _; refine Hid.out ?_)
  show wpList _ _ _ _ _ _
  refine wpList_append_ownR rfl (.tmp 29) (.tmp 34) 28 rfl _ 38 j0 jz 3 V1.heap.size Try.underlying28 HJ0.out.1 HJ0.out.2.1 HJ0.out.2.2.1 HJ0.out.2.2.2.1 HJ0.out.2.2.2.2 (by omega) v3 m (qdC E) (ownsRow_below HW3.out.1 (below_al W3 _)) (some ⟨W3.heap.size, 0, none⟩) 1 1 (qd (x, how, why)) rfl rfl (Rd.one38 W3 (x, how, why)) (Nat.le_trans HW3.out.2.size (by simp)) (by have := HKN.out; omega) ?_
  intro v4 W4 ho4 hw4
  simp only [Act.put, List.setIfInBounds_toArray, List.set_cons_zero, List.set_cons_succ]
  have hb4W : Below V1.heap.size V1 W4 := (HW3.out.2.trans ((below_al W3 _).mono HW3.out.2.size)).trans hw4.out
  have hr4 := RV.own (e := 38) (sz := 3) (n := m + 1) (cs := qdC (E ++ [(x, how, why)])) (by have := ho4.out; rw [qdC_app]; exact this) (qdC_one _)
  obtain ⟨a4, c4, hv4, _⟩ := hr4.1
  subst hv4
  have HRV4 : Hid (RV W4 38 3 (.slice a4 (m + 1) c4) (m + 1) (qdC (E ++ [(x, how, why)])) ∧ (∀ g, blkOf (.slice a4 (m + 1) c4) = some g → V1.heap.size ≤ g)) := ⟨hr4.1, hr4.2.1⟩
  have h4W : Blk W4 b4 30 [.slice a2 n2 c2, .slice a' m c'] := HK1.out.1.below hb4W HK1.out.1.lt
  have h8W : Blk W4 (b4 + 1) 30 [.slice none 0 0, .slice none 0 0] := HK1.out.2.2.below hb4W HK1.out.2.2.lt
  have d1 : W4.cell? ⟨b4, 1, none⟩ = some (.slice a' m c') := h4W.cell rfl
  have d2 : W4.frozen? ⟨b4, 1, none⟩ = false := h4W.free 1
  have HW4 : Hid (Blk W4 b4 30 [.slice a2 n2 c2, .slice a' m c'] ∧ Blk W4 (b4 + 1) 30 [.slice none 0 0, .slice none 0 0] ∧ Below V1.heap.size V1 W4) := ⟨h4W, h8W, hb4W⟩
  clear ho4 hw4 hb4W h4W h8W HW3 c41 hr4
  go_wp2_with (with_reducible change wpList _ _ _ ({ dst := some 37, op := _, type := _, pos := _, after := _, guard := _ } :: _) _ _; refine Hid.out ?_)
  show wpList _ _ _ _ _ _
  obtain ⟨W5, hW5⟩ : ∃ W5, W4.setCell ⟨b4, 1, none⟩ (.slice a4 (m + 1) c4) = W5 := ⟨_, rfl⟩
  rw [hW5]
  have hk5 : Keep (fun k => k = b4) W4 W5 := by rw [← hW5]; exact Keep.grown (grown_setCell W4 b4 1 _) rfl
  have HW5 : Hid (Blk W5 b4 30 [.slice a2 n2 c2, .slice a4 (m + 1) c4] ∧ Blk W5 (b4 + 1) 30 [.slice none 0 0, .slice none 0 0] ∧ Keep (fun k => k = b4) W4 W5) := ⟨by rw [← hW5]; exact HW4.out.1.set 1 _, hk5.blk HW4.out.2.1 (by omega), hk5⟩
  clear hW5 hk5 d1 d2
  refine wpList_load_row rfl 30 (.tmp 4) rfl b4 rfl 30 #[.slice a2 n2 c2, .slice a4 (m + 1) c4] (0, 0) _ HW5.out.1 Try.underlying30 rfl size30 ?_
  simp only [Act.put, List.setIfInBounds_toArray, List.set_cons_zero, List.set_cons_succ]
  go_wp2_with (with_reducible change wpList _ _ _ ({ dst := none, op := Op.store 30 _ _, type := _, pos := _, after := _, guard := _ } :: _) _ _; refine Hid.out ?_)
  show wpList _ _ _ _ _ _
  refine wpList_store_blk rfl 30 (.tmp 8) (.tmp 37) rfl (b4 + 1) 0 30 [.slice none 0 0, .slice none 0 0] [.slice a2 n2 c2, .slice a4 (m + 1) c4] rfl rfl HW5.out.2.1 (by simp) size30 (by intro u hu; simp at hu; rcases hu with rfl | rfl <;> rfl) ?_
  intro V hb6 hg6
  have hk6 : Keep (fun k => k = b4 ∨ k = b4 + 1) W4 V := (HW5.out.2.2.mono (fun j _ hj => .inl hj)).trans (Keep.grown (S := fun k => k = b4 ∨ k = b4 + 1) hg6.out (.inr rfl)) (fun _ hj _ => hj)
  have HV : Hid (Blk V (b4 + 1) 30 [.slice a2 n2 c2, .slice a4 (m + 1) c4] ∧ REndP w (l.eraseIdx k) (E ++ [(x, how, why)]) (.slice a2 n2 c2) (.slice a4 (m + 1) c4) V) := by
    have hsz := HB.out.2.2.2.2.2
    have hA2 := HB2.out.2.2.lt
    have h1s := HK1.out.2.1.size
    refine ⟨hb6.out, ⟨?_, ?_, ?_, ?_, HV1.out.2.2⟩, ?_, ?_, ?_⟩
    · exact (HV1.out.1.below HW4.out.2.2).keep hk6 (fun g hg e => by have := HV1.out.2.1 g hg; omega)
    · have h1 := HRV4.out.1.keep hk6 (fun g hg e => by have := HRV4.out.2 g hg; omega)
      rw [show (E ++ [(x, how, why)]).length = m + 1 by rw [List.length_append, HB.out.2.2.2.2.1]; rfl]
      exact h1
    · have h1 := HRQ.out.nW
      have h2 : (l.eraseIdx k).length ≤ l.length := List.length_eraseIdx_le _ _
      omega
    · have h1 := HKN.out
      have h2 := HB.out.2.2.2.2.1
      simp
      omega
    · have k1 : Keep (fun k => k = b4 ∨ k = b4 + 1) A2 V := (HK1.out.2.1.mono (fun j _ hj => .inl hj)).trans ((Keep.below HW4.out.2.2).trans hk6 (fun _ hj _ => hj)) (fun _ hj _ => hj)
      exact HB2.out.1.trans (k1.toBelow HB2.out.1.size (fun k hk => by omega))
    · intro g hg
      exact Nat.le_trans HB2.out.1.size (HV1.out.2.1 g hg)
    · intro g hg
      have := HRV4.out.2 g hg
      have := HB2.out.1.size
      omega
  clear hb6 hg6 hk6
  go_wp2_with fail
  refine ret30' rfl rfl rfl rfl HV.out.1 ?_
  exact ⟨_, _, rfl, HV.out.2⟩
#print axioms rend_is
end Go.Proofs.Ytipipckbcelphaa.Oct
