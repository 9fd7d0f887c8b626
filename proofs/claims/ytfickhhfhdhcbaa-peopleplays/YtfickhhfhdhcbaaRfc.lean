/-
  Layer 15 (people): the document's people: with, without, Role, Members, Teams.
-/
import Derived.Test.YtfickhhfhdhcbaaRfw
namespace Go.Proofs.Ytfickhhfhdhcbaa.Oct
open Go.RowKit
set_option linter.unusedSimpArgs false
set_option linter.unusedVariables false

theorem fcC_app (F G : List Fc) : fcC (F ++ G) = fcC F ++ fcC G := by simp [fcC]
theorem fcC_take : ∀ (F : List Fc) (k : Nat), (fcC F).take (k * 4) = fcC (F.take k)
  | [], k => by simp [fcC]
  | f :: t, 0 => by simp [fcC]
  | f :: t, k + 1 => by
    have ih := fcC_take t k
    show (f.cells ++ fcC t).take ((k + 1) * 4) = f.cells ++ fcC (t.take k)
    rw [List.take_append, show f.cells.length = 4 from rfl, List.take_of_length_le (by show 4 ≤ _; omega), show (k + 1) * 4 - 4 = k * 4 by omega, ih]
theorem fcC_drop : ∀ (F : List Fc) (k : Nat), (fcC F).drop (k * 4) = fcC (F.drop k)
  | [], k => by simp [fcC]
  | f :: t, 0 => by simp [fcC]
  | f :: t, k + 1 => by
    have ih := fcC_drop t k
    show (f.cells ++ fcC t).drop ((k + 1) * 4) = fcC (t.drop k)
    rw [List.drop_append, show f.cells.length = 4 from rfl, List.drop_of_length_le (by show 4 ≤ _; omega), List.nil_append, show (k + 1) * 4 - 4 = k * 4 by omega, ih]
theorem rret30 {R : Ending → World → Prop} {fn : Func} {pt : Tmp} {a : Act} {w : World} {g : Nat} {X : List Value} (hr : fn.results = #[.cell pt 30]) (hd : a.defers = []) (hp : a.tmps.getD pt undef = .pointer (some ⟨g, 0, none⟩)) (hl : X.length = 3)
    (hb : Blk w g 30 X) (hR : R (.returned (.agg X.toArray)) w) : bodyPost Try.prog fn R .ret a w :=
  bodyPost_ret (results_cell_row hr _ w g 30 X.toArray (0, 0) _ hp hb Try.underlying30 rfl (by rw [List.size_toArray, hl]; exact size30)) hd hR
/-- what a call leaves of the document's people -/
def Rr (w : World) (R' : Rp) (X : List Value) (w' : World) : Prop := ∃ uv ov fv, X = [uv, ov, fv] ∧ RPt w' uv ov fv R' ∧ Below w.heap.size w w'
theorem three {uv ov fv : Value} {w : World} {R : Rp} (h : RPt w uv ov fv R) : ∀ v ∈ [uv, ov, fv], v.oneCell' = true := by
  intro v hv'
  simp at hv'
  rcases hv' with rfl | rfl | rfl
  · exact h.u.one.1
  · exact h.o.one.1
  · exact h.f.one.1
set_option maxRecDepth 100000 in
set_option maxHeartbeats 1000000 in
theorem rwithout_is {w : World} {uv ov fv : Value} {R : Rp} (h : RPt w uv ov fv R) {k : Nat} {f : Fc} (hk : R.F[k]? = some f) : Calls Try.prog 64 #[.agg #[uv, ov, fv], iv (k : Int)] w fun e w' => ∃ fv', e = .returned (.agg #[uv, ov, fv']) ∧ RPt w' uv ov fv' { R with F := R.F.eraseIdx k } ∧ Below w.heap.size w w' := by
  have hkl : k < R.F.length := (List.getElem?_eq_some_iff.1 hk).1
  obtain ⟨n, hn⟩ : ∃ n, R.F.length = n := ⟨_, rfl⟩
  obtain ⟨fa, c, rfl, hnc, _, _, _, hfa⟩ := h.f
  obtain ⟨g, rfl, hgl, _⟩ : ∃ g, fa = some ⟨g, 0, none⟩ ∧ g < w.heap.size ∧ True := by
    rcases hfa with ⟨_, e⟩ | ⟨g, e, hg, _⟩
    · omega
    · exact ⟨g, e, hg, trivial⟩
  have hz30 := zero30
  obtain ⟨b2, hb2⟩ : ∃ b, w.heap.size = b := ⟨_, rfl⟩
  rw [hn] at hnc hkl ⊢
  obtain ⟨A, hA⟩ : ∃ A, (w.alloc (.cells #[uv, ov, .slice (some ⟨g, 0, none⟩) n c] 30)).alloc (.cells #[.slice none 0 0, .slice none 0 0, .slice none 0 0] 30) = A := ⟨_, rfl⟩
  have hB : Below w.heap.size w A := by rw [← hA]; exact ((Below.refl _ w).alloc (Nat.le_refl _) _).alloc (by simp) _
  have h2 : Blk A b2 30 [uv, ov, .slice (some ⟨g, 0, none⟩) n c] := by rw [← hA, ← hb2]; exact (Blk.new w _ _).alloc _
  have h4 : Blk A (b2 + 1) 30 [.slice none 0 0, .slice none 0 0, .slice none 0 0] := by
    rw [← hA, ← hb2]
    have := Blk.new (w.alloc (.cells #[uv, ov, .slice (some ⟨g, 0, none⟩) n c] 30)) #[.slice none 0 0, .slice none 0 0, .slice none 0 0] 30
    rwa [World.size_alloc] at this
  rw [hn] at h
  have HH : Hid (RPt w uv ov (.slice (some ⟨g, 0, none⟩) n c) R ∧ R.F.length = n ∧ Below w.heap.size w A ∧ w.heap.size = b2) := ⟨h, hn, hB, hb2⟩
  have HL : Hid (b2 < A.heap.size) := h2.lt
  have HX : Hid (Blk A b2 30 [uv, ov, .slice (some ⟨g, 0, none⟩) n c]) := h2
  have HB4 : Hid (Blk A (b2 + 1) 30 [.slice none 0 0, .slice none 0 0, .slice none 0 0]) := h4
  have HR : Hid (∀ V, Keep (fun j => j = b2) A V → Rx V (some ⟨g, 0, none⟩) n 4 (fcC R.F)) := fun V hV => by
    have h1 := (HH.out.1.f.below hB)
    rw [hn] at h1
    have h2 := h1.rx
    refine ⟨h2.1, h2.2.1, fun hp => ?_⟩
    obtain ⟨g', off, e, hx⟩ := h2.2.2 hp
    cases e
    exact ⟨g, _, rfl, fun j u hu => (World.cell?_of_block (a := ⟨g, _, none⟩) (hV.block g (Nat.lt_of_lt_of_le hgl hB.size) (by omega))).trans (hx j u hu)⟩
  have HN : Hid (k < n ∧ n ≤ c ∧ n ≤ 100000) := ⟨hkl, hnc, by have := HH.out.1.nf; omega⟩
  obtain ⟨o1, ho1⟩ : ∃ o, o = if c = k + 1 then 0 else (k + 1) * 4 := ⟨_, rfl⟩
  have HOF : Hid (o1 = if c = k + 1 then 0 else (k + 1) * 4) := ho1
  obtain ⟨i0, z, e1, e2, e3, e4, e5⟩ := info75
  have HI0 : Hid (Try.prog.info? 75 = some i0 ∧ i0.zero = some z ∧ i0.size = 4 ∧ i0.bytes ≤ 1000 ∧ z.cells.size = 4) := ⟨e1, e2, e3, e4, e5⟩
  obtain ⟨i1, f1, f2, f3⟩ := u28
  have HU : Hid (Try.prog.underlying 28 = some (.slice (Try.prog.elem 28)) ∧ Try.prog.info? (Try.prog.elem 28) = some i1 ∧ i1.size = 4) := ⟨f1, f2, f3⟩
  clear h hk hkl hn hnc hfa hgl hB h2 h4 ho1 e1 e2 e3 e4 e5 f1 f2 f3
  go_enter Try.func64, Try.ntmps64
  go_wp2_with fail
  refine rwo1 HL HX HR HN HOF HI0 HU ?_
  intro V1 v1 v2 q hown hbk hkp
  have HV1 : Hid (V1.ownsRow A.heap.size 75 4 v2 (n - 1) (fcC (R.F.eraseIdx k)) ∧ Blk V1 b2 30 [uv, ov, v2] ∧ Keep (fun j => j = b2) A V1 ∧ Blk V1 (b2 + 1) 30 [.slice none 0 0, .slice none 0 0, .slice none 0 0]) := by
    have hh := HN.out
    refine ⟨?_, hbk, hkp, hkp.blk HB4.out (by omega)⟩
    rw [List.nil_append, fcC_take, fcC_drop, ← fcC_app, ← List.eraseIdx_eq_take_drop_succ, show 0 + k + (n - (k + 1)) = n - 1 by omega] at hown
    exact hown
  clear hown hbk hkp HR HX HL
  go_wp2_with (with_reducible change wpList _ _ _ ({ dst := some 18, op := _, type := _, pos := _, after := _, guard := _ } :: _) _ _; refine Hid.out ?_)
  show wpList _ _ _ _ _ _
  refine wpList_load_row rfl 30 (.tmp 2) rfl b2 rfl 30 #[uv, ov, v2] (0, 0) _ HV1.out.2.1 Try.underlying30 rfl size30 ?_
  simp only [Act.put, List.setIfInBounds_toArray, List.set_cons_zero, List.set_cons_succ]
  go_wp2_with (with_reducible change wpList _ _ _ ({ dst := none, op := Op.store 30 _ _, type := _, pos := _, after := _, guard := _ } :: _) _ _; refine Hid.out ?_)
  show wpList _ _ _ _ _ _
  have hsv2 := SV.own HV1.out.1 (fcC_one _)
  refine wpList_store_blk rfl 30 (.tmp 4) (.tmp 18) rfl (b2 + 1) 0 30 [.slice none 0 0, .slice none 0 0, .slice none 0 0] [uv, ov, v2] rfl rfl HV1.out.2.2.2 (by simp) size30 (by intro v hv'; simp at hv'; rcases hv' with rfl | rfl | rfl; exact HH.out.1.u.one.1; exact HH.out.1.o.one.1; exact hsv2.one.1) ?_
  intro V hb5 hg5
  have HV : Hid (Blk V (b2 + 1) 30 [uv, ov, v2] ∧ RPt V uv ov v2 { R with F := R.F.eraseIdx k } ∧ Below w.heap.size w V) := by
    have hh := HH.out
    have hs := HN.out
    have kA : Keep (fun j => j = b2 ∨ j = b2 + 1) A V := (HV1.out.2.2.1.mono (T := fun j => j = b2 ∨ j = b2 + 1) (fun j _ hj => .inl hj)).trans (Keep.grown (S := fun j => j = b2 ∨ j = b2 + 1) hg5.out (.inr rfl)) (fun _ hj _ => hj)
    have hbw : Below w.heap.size w V := hh.2.2.1.trans (kA.toBelow hh.2.2.1.size (fun j hj => by rcases hj with e | e <;> omega))
    have hlen : (R.F.eraseIdx k).length = n - 1 := by rw [List.length_eraseIdx, if_pos (by rw [hh.2.1]; exact hs.1), hh.2.1]
    have hown : V.ownsRow A.heap.size 75 4 v2 (n - 1) (fcC (R.F.eraseIdx k)) := own_same HV1.out.1 (fun g h1 h2 => hg5.out.block g h2 (fun e => by cases e; have := HB4.out.lt; omega))
    refine ⟨by simpa using hb5.out, ⟨hh.1.u.below hbw, hh.1.o.below hbw, by rw [show ({ R with F := R.F.eraseIdx k } : Rp).F.length = n - 1 from hlen]; exact SV.own hown (fcC_one _), hh.1.nu, hh.1.no, ?_⟩, hbw⟩
    show (R.F.eraseIdx k).length ≤ 100000
    have := hh.1.nf
    omega
  clear hb5 hg5
  go_wp2_with fail
  refine rret30 rfl rfl rfl rfl HV.out.1 ?_
  exact ⟨v2, rfl, HV.out.2⟩
#print axioms rwithout_is
set_option maxRecDepth 100000 in
set_option maxHeartbeats 1000000 in
theorem rwith_is {w : World} {uv ov fv : Value} {R : Rp} (h : RPt w uv ov fv R) (f : Fc) (hn1 : R.F.length + 1 ≤ 100000) : Calls Try.prog 62 #[.agg #[uv, ov, fv], .agg f.cells.toArray] w fun e w' => ∃ fv', e = .returned (.agg #[uv, ov, fv']) ∧ RPt w' uv ov fv' { R with F := R.F ++ [f] } ∧ Below w.heap.size w w' := by
  obtain ⟨n, hn⟩ : ∃ n, R.F.length = n := ⟨_, rfl⟩
  obtain ⟨fa, c, rfl, _⟩ := h.f
  have hz30 := zero30
  obtain ⟨b2, hb2⟩ : ∃ b, w.heap.size = b := ⟨_, rfl⟩
  rw [hn] at h ⊢
  obtain ⟨A, hA⟩ : ∃ A, ((w.alloc (.cells #[uv, ov, .slice fa n c] 30)).alloc (.cells f.cells.toArray 75)).alloc (.cells #[.slice none 0 0, .slice none 0 0, .slice none 0 0] 30) = A := ⟨_, rfl⟩
  have hB : Below w.heap.size w A := by rw [← hA]; exact (((Below.refl _ w).alloc (Nat.le_refl _) _).alloc (by simp) _).alloc (by simp; omega) _
  have h2 : Blk A b2 30 [uv, ov, .slice fa n c] := by rw [← hA, ← hb2]; exact ((Blk.new w _ _).alloc _).alloc _
  have h3 : Blk A (b2 + 1) 75 f.cells := by
    rw [← hA, ← hb2]
    have := (Blk.new (w.alloc (.cells #[uv, ov, .slice fa n c] 30)) f.cells.toArray 75).alloc (.cells #[.slice none 0 0, .slice none 0 0, .slice none 0 0] 30)
    rwa [World.size_alloc] at this
  have h4 : Blk A (b2 + 1 + 1) 30 [.slice none 0 0, .slice none 0 0, .slice none 0 0] := by
    rw [← hA, ← hb2]
    have := Blk.new ((w.alloc (.cells #[uv, ov, .slice fa n c] 30)).alloc (.cells f.cells.toArray 75)) #[.slice none 0 0, .slice none 0 0, .slice none 0 0] 30
    rwa [World.size_alloc, World.size_alloc] at this
  have HH : Hid (RPt w uv ov (.slice fa n c) R ∧ R.F.length = n ∧ Below w.heap.size w A ∧ w.heap.size = b2) := ⟨h, hn, hB, hb2⟩
  have HL : Hid (b2 < A.heap.size) := h2.lt
  have HX : Hid (Blk A b2 30 [uv, ov, .slice fa n c]) := h2
  have HB4 : Hid (Blk A (b2 + 1 + 1) 30 [.slice none 0 0, .slice none 0 0, .slice none 0 0]) := h4
  have HR : Hid (∀ V, Keep (fun j => j = b2) A V → Rx V fa n 4 (fcC R.F)) := fun V hV => by
    have h1 := HH.out.1.f
    rw [hn] at h1
    have h2 := h1.rx
    obtain ⟨a', c', e', _, _, _, _, h5⟩ := h1
    cases e'
    refine ⟨h2.1, h2.2.1, fun hp => ?_⟩
    rcases h5 with ⟨e, e'⟩ | ⟨g, e, hg, hx⟩
    · obtain ⟨g', off, e9, _⟩ := h2.2.2 hp
      rw [e] at e9
      cases e9
    · exact ⟨g, 0, e, fun j u hu => by rw [Nat.zero_add]; exact (World.cell?_of_block (a := ⟨g, j, none⟩) ((hV.block g (Nat.lt_of_lt_of_le hg hB.size) (by omega)).trans (hB.block g hg))).trans (hx j u hu)⟩
  have HN : Hid (n ≤ 100000) := by show _ ≤ _; omega
  have HN1 : Hid (n + 1 ≤ 100000) := by show _ ≤ _; omega
  obtain ⟨i0, z, e1, e2, e3, e4, e5⟩ := info75
  have HI0 : Hid (Try.prog.info? 75 = some i0 ∧ i0.zero = some z ∧ i0.size = 4 ∧ i0.bytes ≤ 1000 ∧ z.cells.size = 4) := ⟨e1, e2, e3, e4, e5⟩
  have HF3 : Hid (A.rangeAt (b2 + 1) 0 f.cells ∧ b2 + 1 < A.heap.size ∧ ¬ (b2 + 1 = b2)) := ⟨by have := h3.range 0 4; simpa [Fc.cells] using this, h3.lt, by omega⟩
  clear h hn hn1 hB h2 h3 h4 e1 e2 e3 e4 e5
  go_enter Try.func62, Try.ntmps62
  go_wp2_with fail
  refine rwi1 HL HX HR HN HI0 HF3 ?_
  intro V1 v1 v2 q nb hown hbk hkp
  have HV1 : Hid (V1.ownsRow A.heap.size 75 4 v2 (n + 1) (fcC (R.F ++ [f])) ∧ Blk V1 b2 30 [uv, ov, v2] ∧ Keep (fun j => j = b2) A V1 ∧ Blk V1 (b2 + 1 + 1) 30 [.slice none 0 0, .slice none 0 0, .slice none 0 0]) := by
    refine ⟨?_, hbk, hkp, hkp.blk HB4.out (by omega)⟩
    rw [List.nil_append, Nat.zero_add] at hown
    rw [fcC_app, show fcC [f] = f.cells by simp [fcC]]
    exact hown
  clear hown hbk hkp HR HX HL
  go_wp2_with (with_reducible change wpList _ _ _ ({ dst := some 13, op := _, type := _, pos := _, after := _, guard := _ } :: _) _ _; refine Hid.out ?_)
  show wpList _ _ _ _ _ _
  refine wpList_load_row rfl 30 (.tmp 2) rfl b2 rfl 30 #[uv, ov, v2] (0, 0) _ HV1.out.2.1 Try.underlying30 rfl size30 ?_
  simp only [Act.put, List.setIfInBounds_toArray, List.set_cons_zero, List.set_cons_succ]
  go_wp2_with (with_reducible change wpList _ _ _ ({ dst := none, op := Op.store 30 _ _, type := _, pos := _, after := _, guard := _ } :: _) _ _; refine Hid.out ?_)
  show wpList _ _ _ _ _ _
  have hsv2 := SV.own HV1.out.1 (fcC_one _)
  refine wpList_store_blk rfl 30 (.tmp 4) (.tmp 13) rfl (b2 + 1 + 1) 0 30 [.slice none 0 0, .slice none 0 0, .slice none 0 0] [uv, ov, v2] rfl rfl HV1.out.2.2.2 (by simp) size30 (by intro v hv'; simp at hv'; rcases hv' with rfl | rfl | rfl; exact HH.out.1.u.one.1; exact HH.out.1.o.one.1; exact hsv2.one.1) ?_
  intro V hb5 hg5
  have HV : Hid (Blk V (b2 + 1 + 1) 30 [uv, ov, v2] ∧ RPt V uv ov v2 { R with F := R.F ++ [f] } ∧ Below w.heap.size w V) := by
    have hh := HH.out
    have hs := HN1.out
    have kA : Keep (fun j => j = b2 ∨ j = b2 + 1 + 1) A V := (HV1.out.2.2.1.mono (T := fun j => j = b2 ∨ j = b2 + 1 + 1) (fun j _ hj => .inl hj)).trans (Keep.grown (S := fun j => j = b2 ∨ j = b2 + 1 + 1) hg5.out (.inr rfl)) (fun _ hj _ => hj)
    have hbw : Below w.heap.size w V := hh.2.2.1.trans (kA.toBelow hh.2.2.1.size (fun j hj => by rcases hj with e | e <;> omega))
    have hlen : (R.F ++ [f]).length = n + 1 := by rw [List.length_append, hh.2.1]; rfl
    have hown : V.ownsRow A.heap.size 75 4 v2 (n + 1) (fcC (R.F ++ [f])) := own_same HV1.out.1 (fun g h1 h2 => hg5.out.block g h2 (fun e => by cases e; have := HB4.out.lt; omega))
    refine ⟨by simpa using hb5.out, ⟨hh.1.u.below hbw, hh.1.o.below hbw, by rw [show ({ R with F := R.F ++ [f] } : Rp).F.length = n + 1 from hlen]; exact SV.own hown (fcC_one _), hh.1.nu, hh.1.no, ?_⟩, hbw⟩
    show (R.F ++ [f]).length ≤ 100000
    omega
  clear hb5 hg5
  go_wp2_with fail
  refine rret30 rfl rfl rfl rfl HV.out.1 ?_
  exact ⟨v2, rfl, HV.out.2⟩
#print axioms rwith_is
end Go.Proofs.Ytfickhhfhdhcbaa.Oct
