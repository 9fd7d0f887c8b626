/-
  Layer 21 (queue): the reference: Drop, and the drawn regions of Step.
-/
import Derived.Test.YtipipckbcelphaaWRfe
namespace Go.Proofs.Ytipipckbcelphaa.Oct
open Go.RowKit Go.Shelf
set_option linter.unusedSimpArgs false
set_option linter.unusedVariables false

set_option maxRecDepth 100000 in
set_option maxHeartbeats 2000000 in
theorem rdrop_no {w : World} {wv ev : Value} {l : List Int} {E : List (Int × Int × Int)} (h : RQ w wv ev l E) {x : Int} (hx : x ∉ l) :
    Calls Try.prog 14 #[.agg #[wv, ev], iv x] w fun e w' => e = .returned (.tuple #[.agg #[wv, ev], iv 111]) ∧ Below w.heap.size w w' := by
  have hpl : plc l x = -1 := (plc_cases l x).elim (fun h => h.1) (fun ⟨k, _, h2, _⟩ => absurd (List.mem_of_getElem? h2) hx)
  obtain ⟨a, c, a', c', rfl, rfl⟩ := h.shape
  obtain ⟨n, hn⟩ : ∃ n, l.length = n := ⟨_, rfl⟩
  obtain ⟨m, hm⟩ : ∃ m, E.length = m := ⟨_, rfl⟩
  have HRQ : Hid (RQ w (.slice a n c) (.slice a' m c') l E) := by rw [← hn, ← hm]; exact h
  rw [hn, hm]
  have hz30 := zero30
  obtain ⟨b2, hb2⟩ : ∃ b, w.heap.size = b := ⟨_, rfl⟩
  obtain ⟨A, hA⟩ : ∃ A, (w.alloc (.cells #[.slice a n c, .slice a' m c'] 30)).alloc (.cells #[.slice none 0 0, .slice none 0 0] 30) = A := ⟨_, rfl⟩
  have hB : Below w.heap.size w A := by rw [← hA]; exact ((Below.refl _ w).alloc (Nat.le_refl _) _).alloc (by simp) _
  have h2 : Blk A b2 30 [.slice a n c, .slice a' m c'] := by rw [← hA, ← hb2]; exact (Blk.new w _ _).alloc _
  have h4 : Blk A (b2 + 1) 30 [.slice none 0 0, .slice none 0 0] := by
    rw [← hA, ← hb2]
    have := Blk.new (w.alloc (.cells #[.slice a n c, .slice a' m c'] 30)) #[.slice none 0 0, .slice none 0 0] 30
    rwa [World.size_alloc] at this
  have cb : A.cell? ⟨b2, 0, none⟩ = some (.slice a n c) := h2.cell rfl
  have cb1 : A.cell? ⟨b2, 1, none⟩ = some (.slice a' m c') := h2.cell rfl
  have HB : Hid (Below w.heap.size w A ∧ Blk A b2 30 [.slice a n c, .slice a' m c'] ∧ Blk A (b2 + 1) 30 [.slice none 0 0, .slice none 0 0]) := ⟨hB, h2, h4⟩
  have HSZ : Hid (w.heap.size = b2) := hb2
  have HP := rplace_is (HRQ.out.below hB) x
  rw [hpl] at HP
  clear h hx hpl hn hm hB h2 h4
  go_enter Try.func14, Try.ntmps14
  go_wp2_with fail
  refine HP.mono ?_
  rintro e A2 ⟨rfl, hb2'⟩
  have HB2 : Hid (Below w.heap.size w A2 ∧ Blk A2 b2 30 [.slice a n c, .slice a' m c'] ∧ Blk A2 (b2 + 1) 30 [.slice none 0 0, .slice none 0 0]) := ⟨below_tr HB.out.1 hb2', HB.out.2.1.below hb2' HB.out.2.1.lt, HB.out.2.2.below hb2' HB.out.2.2.lt⟩
  clear HP hb2' cb cb1
  go_wp2_with (with_reducible change wpList _ _ _ ({ dst := some 10, op := _, type := _, pos := _, after := _, guard := _ } :: _) _ _; refine Hid.out ?_)
  show wpList _ _ _ _ _ _
  refine wpList_load_row rfl 30 (.tmp 2) rfl b2 rfl 30 #[.slice a n c, .slice a' m c'] (0, 0) _ HB2.out.2.1 Try.underlying30 rfl size30 ?_
  simp only [Act.put, List.setIfInBounds_toArray, List.set_cons_zero, List.set_cons_succ]
  go_wp2_with (with_reducible change wpList _ _ _ ({ dst := none, op := Op.store 30 _ _, type := _, pos := _, after := _, guard := _ } :: _) _ _; refine Hid.out ?_)
  show wpList _ _ _ _ _ _
  refine wpList_store_blk rfl 30 (.tmp 4) (.tmp 10) rfl (b2 + 1) 0 30 [.slice none 0 0, .slice none 0 0] [.slice a n c, .slice a' m c'] rfl rfl HB2.out.2.2 (by simp) size30 (by intro u hu; simp at hu; rcases hu with rfl | rfl <;> rfl) ?_
  intro V hb5 hg5
  have HV : Hid (Blk V (b2 + 1) 30 [.slice a n c, .slice a' m c'] ∧ Below w.heap.size w V) := ⟨hb5.out, HB2.out.1.grown hg5.out HB2.out.1.size (fun j hj => by cases hj; have := HSZ.out; omega)⟩
  clear hb5 hg5
  go_wp2_with fail
  refine ret30 rfl rfl rfl rfl HV.out.1 ?_
  exact ⟨rfl, HV.out.2⟩
#print axioms rdrop_no
set_option maxRecDepth 100000 in
set_option maxHeartbeats 2000000 in
theorem rdrop_yes {w : World} {wv ev : Value} {l : List Int} {E : List (Int × Int × Int)} (h : RQ w wv ev l E) (hE9 : E.length + 1 ≤ 3000000000000) {k : Nat} {x : Int} (hx : l[k]? = some x) (hf : ∀ (j : Nat) (y : Int), j < k → l[j]? = some y → y ≠ x) :
    Calls Try.prog 14 #[.agg #[wv, ev], iv x] w fun e w' => ∃ wv' ev', e = .returned (.tuple #[.agg #[wv', ev'], iv 0]) ∧ REndP w (l.eraseIdx k) (E ++ [(x, 2, 201)]) wv' ev' w' := by
  have hpl : plc l x = k := plc_yes hx hf
  obtain ⟨a, c, a', c', rfl, rfl⟩ := h.shape
  obtain ⟨n, hn⟩ : ∃ n, l.length = n := ⟨_, rfl⟩
  obtain ⟨m, hm⟩ : ∃ m, E.length = m := ⟨_, rfl⟩
  have HRQ : Hid (RQ w (.slice a n c) (.slice a' m c') l E) := by rw [← hn, ← hm]; exact h
  rw [hn, hm]
  have hz30 := zero30
  obtain ⟨b2, hb2⟩ : ∃ b, w.heap.size = b := ⟨_, rfl⟩
  obtain ⟨A, hA⟩ : ∃ A, (w.alloc (.cells #[.slice a n c, .slice a' m c'] 30)).alloc (.cells #[.slice none 0 0, .slice none 0 0] 30) = A := ⟨_, rfl⟩
  have hB : Below w.heap.size w A := by rw [← hA]; exact ((Below.refl _ w).alloc (Nat.le_refl _) _).alloc (by simp) _
  have h2 : Blk A b2 30 [.slice a n c, .slice a' m c'] := by rw [← hA, ← hb2]; exact (Blk.new w _ _).alloc _
  have h4 : Blk A (b2 + 1) 30 [.slice none 0 0, .slice none 0 0] := by
    rw [← hA, ← hb2]
    have := Blk.new (w.alloc (.cells #[.slice a n c, .slice a' m c'] 30)) #[.slice none 0 0, .slice none 0 0] 30
    rwa [World.size_alloc] at this
  have cb : A.cell? ⟨b2, 0, none⟩ = some (.slice a n c) := h2.cell rfl
  have cb1 : A.cell? ⟨b2, 1, none⟩ = some (.slice a' m c') := h2.cell rfl
  have HB : Hid (Below w.heap.size w A ∧ Blk A b2 30 [.slice a n c, .slice a' m c'] ∧ Blk A (b2 + 1) 30 [.slice none 0 0, .slice none 0 0]) := ⟨hB, h2, h4⟩
  have HSZ : Hid (w.heap.size = b2) := hb2
  have HP := rplace_is (HRQ.out.below hB) x
  rw [hpl] at HP
  have HXX : Hid (E.length + 1 ≤ 3000000000000 ∧ l[k]? = some x ∧ ∀ (j : Nat) (y : Int), j < k → l[j]? = some y → y ≠ x) := ⟨hE9, hx, hf⟩
  have q1 : ¬ ((k : Int) < 0) := by omega
  clear h hx hpl hn hm hB h2 h4 hf hE9
  go_enter Try.func14, Try.ntmps14
  go_wp2_with fail
  refine HP.mono ?_
  rintro e A2 ⟨rfl, hb2'⟩
  have HB2 : Hid (Below w.heap.size w A2 ∧ Blk A2 b2 30 [.slice a n c, .slice a' m c'] ∧ Blk A2 (b2 + 1) 30 [.slice none 0 0, .slice none 0 0]) := ⟨below_tr HB.out.1 hb2', HB.out.2.1.below hb2' HB.out.2.1.lt, HB.out.2.2.below hb2' HB.out.2.2.lt⟩
  have HEN := rend_is (HRQ.out.below HB2.out.1) HXX.out.1 HXX.out.2.1 HXX.out.2.2 2 201
  have d0 : A2.cell? ⟨b2, 0, none⟩ = some (.slice a n c) := HB2.out.2.1.cell rfl
  have d1 : A2.cell? ⟨b2, 1, none⟩ = some (.slice a' m c') := HB2.out.2.1.cell rfl
  clear HP hb2' cb cb1
  go_wp2_with fail
  refine HEN.mono ?_
  rintro e V2 ⟨wv', ev', rfl, hre⟩
  obtain ⟨a2, c2, a3, c3, hsw, hse⟩ := hre.1.shape
  obtain ⟨n2, hn2⟩ : ∃ n2, (l.eraseIdx k).length = n2 := ⟨_, rfl⟩
  obtain ⟨m2, hm2⟩ : ∃ m2, (E ++ [(x, 2, 201)]).length = m2 := ⟨_, rfl⟩
  rw [hn2] at hsw
  rw [hm2] at hse
  subst hsw
  subst hse
  clear hn2 hm2
  have HV2 : Hid (REndP A2 (l.eraseIdx k) (E ++ [(x, 2, 201)]) _ _ V2 ∧ Blk V2 (b2 + 1) 30 [.slice none 0 0, .slice none 0 0]) := ⟨hre, HB2.out.2.2.below hre.2.1 HB2.out.2.2.lt⟩
  clear HEN hre d0 d1
  go_wp2_with (with_reducible change wpList _ _ _ ({ dst := none, op := Op.store 30 _ _, type := _, pos := _, after := _, guard := _ } :: _) _ _; refine Hid.out ?_)
  show wpList _ _ _ _ _ _
  refine wpList_store_blk rfl 30 (.tmp 4) (.tmp 13) rfl (b2 + 1) 0 30 [.slice none 0 0, .slice none 0 0] [.slice a2 n2 c2, .slice a3 m2 c3] rfl rfl HV2.out.2 (by simp) size30 (by intro u hu; simp at hu; rcases hu with rfl | rfl <;> rfl) ?_
  intro V hb5 hg5
  have hk5 : Keep (fun k => k = b2 + 1) V2 V := Keep.grown hg5.out rfl
  have HV : Hid (Blk V (b2 + 1) 30 [.slice a2 n2 c2, .slice a3 m2 c3] ∧ REndP w (l.eraseIdx k) (E ++ [(x, 2, 201)]) (.slice a2 n2 c2) (.slice a3 m2 c3) V) := by
    have hlt := HB2.out.2.2.lt
    have hsz := HSZ.out
    refine ⟨hb5.out, HV2.out.1.1.keep hk5 (fun g hg e => by have := HV2.out.1.2.2.1 g hg; omega) (fun g hg e => by have := HV2.out.1.2.2.2 g hg; omega), ?_, fun g hg => Nat.le_trans HB2.out.1.size (HV2.out.1.2.2.1 g hg), fun g hg => Nat.le_trans HB2.out.1.size (HV2.out.1.2.2.2 g hg)⟩
    exact (below_tr HB2.out.1 HV2.out.1.2.1).grown hg5.out (below_tr HB2.out.1 HV2.out.1.2.1).size (fun j hj => by cases hj; omega)
  clear hb5 hg5 hk5
  go_wp2_with fail
  refine ret30 rfl rfl rfl rfl HV.out.1 ?_
  exact ⟨_, _, rfl, HV.out.2⟩
#print axioms rdrop_yes
theorem one_rq {w : World} {wv ev : Value} {l : List Int} {E : List (Int × Int × Int)} (h : RQ w wv ev l E) : ∀ u ∈ [wv, ev], u.oneCell' = true := by
  obtain ⟨a, c, a', c', rfl, rfl⟩ := h.shape
  intro u hu
  simp at hu
  rcases hu with rfl | rfl <;> rfl
/-- a whole value stored over a block -/
theorem step_st2 {ops : Array Oper} {o : Oper} {a : Act} {w : World} {K : Act → World → Prop} {Q : Exit → Act → World → Prop} {E : Prop} (hw : Region.wanted o (yielded ops a.tmps) = true) (t : TypeId) (x y : Operand) (hop : o.op = .store t x y) (b : Nat) (X : List Value) (T : TypeId) (L : List Value) (hx : a.eval x = .pointer (some ⟨b, 0, none⟩)) (hy : a.eval y = .agg X.toArray) (hb : Blk w b T L) (hl : L.length = X.length)
    (hi : (Try.prog.info? t).map (·.size) = some X.length) (h1 : ∀ v ∈ X, v.oneCell' = true) (hk : ∀ w', Hid (Blk w' b T X) → Hid (w.grownBy w' (some b)) → K (a.put o.dst undef) w') : if Region.wanted o (yielded ops a.tmps) = true then Oper.wp Try.prog o a w K Q else E := by
  rw [if_pos hw]
  refine wp_store_mid t x y hop b 0 X.toArray hx hy (by simpa using hb.there 0 X.length (by omega)) (by simpa using hi) (all_oneCell_toArray h1) ?_
  have e := Blk.setCells X 0 w L hb (by omega)
  rw [List.take_zero, List.nil_append, List.drop_of_length_le (by omega), List.append_nil] at e
  exact hk _ e.1 e.2
set_option maxRecDepth 100000 in
set_option maxHeartbeats 4000000 in
theorem rstep6 {Q : Exit → Act → World → Prop} {x0 x3 x4 x5 x6 x8 x9 x10 x11 x12 x13 x14 x15 x16 x17 x18 x19 x20 x21 x22 x23 x24 x25 x26 x27 x28 x29 x30 x31 x32 : Value} {ds : List Deferred} {A : World} {b2 g n c m c3 : Nat} {a3 : Option Addr} {x r hh : Int} {l' : List Int} {E' : List (Int × Int × Int)}
    (HX : Hid (Blk A b2 30 [.slice (some ⟨g, 0, none⟩) n c, .slice a3 m c3] ∧ A.cell? ⟨g, 0, none⟩ = some (iv x))) (HN : Hid (0 < n ∧ n ≤ 1000))
    (HT0 : Calls Try.prog 39 #[.agg #[.slice (some ⟨g, 0, none⟩) n c, .slice a3 m c3], iv x, iv hh, iv r] A.drew fun e V => ∃ wv1 ev1, e = .returned (.agg #[wv1, ev1]) ∧ REndP A.drew l' E' wv1 ev1 V)
    (hQ : ∀ V1 V0 wv1 ev1, REndP A.drew l' E' wv1 ev1 V0 → Keep (fun j => j = b2) V0 V1 → Blk V1 b2 30 [wv1, ev1] → Q .normal { tmps := #[x0, iv r, .pointer (some ⟨b2, 0, none⟩), x3, x4, x5, x6, iv hh, x8, x9, x10, x11, x12, x13, x14, x15, .agg #[.slice (some ⟨g, 0, none⟩) n c, .slice a3 m c3], .pointer (some ⟨b2, 0, none⟩), .slice (some ⟨g, 0, none⟩) n c, .pointer (some ⟨g, 0, none⟩), iv x, iv hh, iv r, .agg #[wv1, ev1], x24, x25, x26, x27, x28, x29, x30, x31, x32], defers := ds } V1) :
    (Code.region 6 #[{ dst := some 16, op := Op.load 30 (Operand.tmp 2), type := 30, pos := "ref.go:75", after := #[], guard := none }, { dst := some 17, op := Op.fieldAddr 30 (Operand.tmp 2) 0, type := 0, pos := "ref.go:75", after := #[], guard := none }, { dst := some 18, op := Op.load 27 (Operand.tmp 17), type := 27, pos := "ref.go:75", after := #[{ on := 1, ground := Ground.data }], guard := none }, { dst := some 19, op := Op.indexAddr 27 (Operand.tmp 18) (Operand.const (Value.int IntKind.i64 0)), type := 0, pos := "ref.go:75", after := #[{ on := 2, ground := Ground.data }], guard := none }, { dst := some 20, op := Op.load 3 (Operand.tmp 19), type := 3, pos := "ref.go:75", after := #[{ on := 3, ground := Ground.data }], guard := none }, { dst := some 21, op := Op.move (Operand.tmp 7), type := 3, pos := "ref.go:75", after := #[], guard := none }, { dst := some 22, op := Op.move (Operand.tmp 1), type := 3, pos := "ref.go:75", after := #[], guard := none }, { dst := some 23, op := Op.call { callee := Callee.value (Operand.func 39), args := #[Operand.tmp 16, Operand.tmp 20, Operand.tmp 21, Operand.tmp 22], argTypes := #[30, 3, 3, 3] }, type := 30, pos := "ref.go:75", after := #[{ on := 0, ground := Ground.data }, { on := 4, ground := Ground.data }, { on := 5, ground := Ground.data }, { on := 6, ground := Ground.data }], guard := none }, { dst := none, op := Op.store 30 (Operand.tmp 2) (Operand.tmp 23), type := 0, pos := "ref.go:75", after := #[{ on := 7, ground := Ground.data }, { on := 7, ground := Ground.chain }, { on := 0, ground := Ground.phase }, { on := 1, ground := Ground.phase }, { on := 2, ground := Ground.phase }, { on := 3, ground := Ground.phase }, { on := 4, ground := Ground.phase }, { on := 5, ground := Ground.phase }, { on := 6, ground := Ground.phase }, { on := 7, ground := Ground.phase }], guard := none }] true).wp Try.prog Q { tmps := #[x0, iv r, .pointer (some ⟨b2, 0, none⟩), x3, x4, x5, x6, iv hh, x8, x9, x10, x11, x12, x13, x14, x15, x16, x17, x18, x19, x20, x21, x22, x23, x24, x25, x26, x27, x28, x29, x30, x31, x32], defers := ds } A := by
  refine Code.wp_mono (Q := fun x a' w' => match x with | .normal => Q .normal a' w' | _ => False) (by intro x a' w' h; cases x <;> first | exact h | exact h.elim) ?_
  refine wp_region_held (S := fun V => Keep (fun j => j = b2) A V) (by kernel_rfl) ?_
  have hS0 : Hid (Keep (fun j => j = b2) A A.drew) := (Keep.refl _ A).drew
  change wpAnyH Try.prog .any _ _ (fun V => Keep (fun j => j = b2) A V) 9 (Array.replicate 9 false) _ A.drew
  obtain ⟨V0, hV0⟩ : ∃ V0, A.drew = V0 := ⟨_, rfl⟩
  rw [hV0]
  rw [hV0] at hS0
  have hX0 : Hid (Blk V0 b2 30 [.slice (some ⟨g, 0, none⟩) n c, .slice a3 m c3] ∧ V0.cell? ⟨g, 0, none⟩ = some (iv x)) := by rw [← hV0]; exact HX.out
  have HT := HT0
  rw [hV0] at HT
  clear HT0
  have HV0 : Hid (A.drew = V0) := hV0
  clear hV0
  refine wpAnyH_take (i := 1) (oi := { dst := some 17, op := Op.fieldAddr 30 (Operand.tmp 2) 0, type := 0, pos := "ref.go:75", after := #[], guard := none }) (v := .pointer (some ⟨b2, 0, none⟩)) rfl (by kernel_rfl) (by kernel_rfl) (by kernel_rfl) (fun _ _ _ h => h.elim) (Or.inl ⟨by rfl, ?y1⟩) hS0.out ?_
  case y1 =>
    intro V hV
    go_simp
  simp only [Act.put, List.setIfInBounds_toArray, List.set_cons_zero, List.set_cons_succ]
  refine wpAnyH_take (i := 5) (oi := { dst := some 21, op := Op.move (Operand.tmp 7), type := 3, pos := "ref.go:75", after := #[], guard := none }) (v := iv hh) rfl (by kernel_rfl) (by kernel_rfl) (by kernel_rfl) (fun _ _ _ h => h.elim) (Or.inl ⟨by rfl, ?y2⟩) hS0.out ?_
  case y2 =>
    intro V hV
    go_simp
  simp only [Act.put, List.setIfInBounds_toArray, List.set_cons_zero, List.set_cons_succ]
  refine wpAnyH_take (i := 6) (oi := { dst := some 22, op := Op.move (Operand.tmp 1), type := 3, pos := "ref.go:75", after := #[], guard := none }) (v := iv r) rfl (by kernel_rfl) (by kernel_rfl) (by kernel_rfl) (fun _ _ _ h => h.elim) (Or.inl ⟨by rfl, ?y3⟩) hS0.out ?_
  case y3 =>
    intro V hV
    go_simp
  simp only [Act.put, List.setIfInBounds_toArray, List.set_cons_zero, List.set_cons_succ]
  refine wpAnyH_ready (rs := [0, 2]) (by kernel_rfl) (by simp) (AllReadyH.cons (i := 0) (o := { dst := some 16, op := Op.load 30 (Operand.tmp 2), type := 30, pos := "ref.go:75", after := #[], guard := none }) rfl ?_ (AllReadyH.cons (i := 2) (o := { dst := some 18, op := Op.load 27 (Operand.tmp 17), type := 27, pos := "ref.go:75", after := #[{ on := 1, ground := Ground.data }], guard := none }) rfl ?_ AllReadyH.nil))
  · intro K1 hK1
    rw [if_pos (by rfl)]
    have hc0 : V0.cell? ⟨b2, 0, none⟩ = some (.slice (some ⟨g, 0, none⟩) n c) := hX0.out.1.cell rfl
    have hc1 : V0.cell? ⟨b2, 1, none⟩ = some (.slice a3 m c3) := hX0.out.1.cell rfl
    go_wp2
    clear hc0 hc1
    refine hK1.out _ _ hS0.out ?_
    clear hK1
    intro _
    try simp only [Act.put, List.setIfInBounds_toArray, List.set_cons_zero, List.set_cons_succ]
    refine wpAnyH_ready (rs := [2]) (by kernel_rfl) (by simp) (AllReadyH.cons (i := 2) (o := { dst := some 18, op := Op.load 27 (Operand.tmp 17), type := 27, pos := "ref.go:75", after := #[{ on := 1, ground := Ground.data }], guard := none }) rfl ?_ AllReadyH.nil)
    · intro K1 hK1
      rw [if_pos (by rfl)]
      have hc0 : V0.cell? ⟨b2, 0, none⟩ = some (.slice (some ⟨g, 0, none⟩) n c) := hX0.out.1.cell rfl
      go_wp2
      clear hc0
      refine hK1.out _ _ hS0.out ?_
      clear hK1
      intro _
      try simp only [Act.put, List.setIfInBounds_toArray, List.set_cons_zero, List.set_cons_succ]
      refine wpAnyH_take (i := 3) (oi := { dst := some 19, op := Op.indexAddr 27 (Operand.tmp 18) (Operand.const (Value.int IntKind.i64 0)), type := 0, pos := "ref.go:75", after := #[{ on := 2, ground := Ground.data }], guard := none }) (v := .pointer (some ⟨g, 0, none⟩)) rfl (by kernel_rfl) (by kernel_rfl) (by kernel_rfl) (fun _ _ _ h => h.elim) (Or.inl ⟨by rfl, ?y4⟩) hS0.out ?_
      case y4 =>
        intro V hV
        have q1 := HN.out
        have q2 : (0 : Int) < (n : Int) := by omega
        go_simp
      simp only [Act.put, List.setIfInBounds_toArray, List.set_cons_zero, List.set_cons_succ]
      refine wpAnyH_ready (rs := [4]) (by kernel_rfl) (by simp) (AllReadyH.cons (i := 4) (o := { dst := some 20, op := Op.load 3 (Operand.tmp 19), type := 3, pos := "ref.go:75", after := #[{ on := 3, ground := Ground.data }], guard := none }) rfl ?_ AllReadyH.nil)
      · intro K1 hK1
        rw [if_pos (by rfl)]
        have hc0 : V0.cell? ⟨g, 0, none⟩ = some (iv x) := hX0.out.2
        go_wp2
        clear hc0
        refine hK1.out _ _ hS0.out ?_
        clear hK1
        intro _
        try simp only [Act.put, List.setIfInBounds_toArray, List.set_cons_zero, List.set_cons_succ]
        refine wpAnyH_ready (rs := [7]) (by kernel_rfl) (by simp) (AllReadyH.cons (i := 7) (o := { dst := some 23, op := Op.call { callee := Callee.value (Operand.func 39), args := #[Operand.tmp 16, Operand.tmp 20, Operand.tmp 21, Operand.tmp 22], argTypes := #[30, 3, 3, 3] }, type := 30, pos := "ref.go:75", after := #[{ on := 0, ground := Ground.data }, { on := 4, ground := Ground.data }, { on := 5, ground := Ground.data }, { on := 6, ground := Ground.data }], guard := none }) rfl ?_ AllReadyH.nil)
        · intro K1 hK1
          rw [if_pos (by rfl)]
          have HC := HT
          go_wp2_with fail
          refine HC.mono ?_
          rintro e V4 ⟨wv1, ev1, rfl, hre⟩
          dsimp only
          clear HC
          have hS4 : Hid (Keep (fun j => j = b2) A V4) := (hS0.out).trans (Keep.below (S := fun j => j = b2) hre.2.1) (fun _ hj _ => hj)
          have hX4 : Hid (Blk V4 b2 30 [.slice (some ⟨g, 0, none⟩) n c, .slice a3 m c3]) := hX0.out.1.below hre.2.1 hX0.out.1.lt
          have HRE : Hid _ := hre
          clear hre
          refine hK1.out _ _ hS4.out ?_
          clear hK1
          intro _
          try simp only [Act.put, List.setIfInBounds_toArray, List.set_cons_zero, List.set_cons_succ]
          refine wpAnyH_ready (rs := [8]) (by kernel_rfl) (by simp) (AllReadyH.cons (i := 8) (o := { dst := none, op := Op.store 30 (Operand.tmp 2) (Operand.tmp 23), type := 0, pos := "ref.go:75", after := #[{ on := 7, ground := Ground.data }, { on := 7, ground := Ground.chain }, { on := 0, ground := Ground.phase }, { on := 1, ground := Ground.phase }, { on := 2, ground := Ground.phase }, { on := 3, ground := Ground.phase }, { on := 4, ground := Ground.phase }, { on := 5, ground := Ground.phase }, { on := 6, ground := Ground.phase }, { on := 7, ground := Ground.phase }], guard := none }) rfl ?_ AllReadyH.nil)
          · intro K1 hK1
            refine step_st2 (by rfl) 30 (.tmp 2) (.tmp 23) rfl b2 [wv1, ev1] 30 _ rfl rfl hX4.out (by simp) (by simpa using size30) (one_rq HRE.out.1) ?_
            intro V5 hb5 hg5
            have hS5 : Hid (Keep (fun j => j = b2) A V5) := (hS4.out).trans (Keep.grown (S := fun j => j = b2) hg5.out rfl) (fun _ hj _ => hj)
            have hK5 : Hid (Keep (fun j => j = b2) V4 V5) := Keep.grown hg5.out rfl
            refine hK1.out _ _ hS5.out ?_
            clear hK1
            intro _
            try simp only [Act.put, List.setIfInBounds_toArray, List.set_cons_zero, List.set_cons_succ]
            refine wpAnyH_done (by kernel_rfl) ?_ _
            exact hQ V5 _ _ _ (by rw [HV0.out]; exact HRE.out) hK5.out hb5.out
  · intro K1 hK1
    rw [if_pos (by rfl)]
    have hc0 : V0.cell? ⟨b2, 0, none⟩ = some (.slice (some ⟨g, 0, none⟩) n c) := hX0.out.1.cell rfl
    go_wp2
    clear hc0
    refine hK1.out _ _ hS0.out ?_
    clear hK1
    intro _
    try simp only [Act.put, List.setIfInBounds_toArray, List.set_cons_zero, List.set_cons_succ]
    refine wpAnyH_take (i := 3) (oi := { dst := some 19, op := Op.indexAddr 27 (Operand.tmp 18) (Operand.const (Value.int IntKind.i64 0)), type := 0, pos := "ref.go:75", after := #[{ on := 2, ground := Ground.data }], guard := none }) (v := .pointer (some ⟨g, 0, none⟩)) rfl (by kernel_rfl) (by kernel_rfl) (by kernel_rfl) (fun _ _ _ h => h.elim) (Or.inl ⟨by rfl, ?y5⟩) hS0.out ?_
    case y5 =>
      intro V hV
      have q1 := HN.out
      have q2 : (0 : Int) < (n : Int) := by omega
      go_simp
    simp only [Act.put, List.setIfInBounds_toArray, List.set_cons_zero, List.set_cons_succ]
    refine wpAnyH_ready (rs := [0, 4]) (by kernel_rfl) (by simp) (AllReadyH.cons (i := 0) (o := { dst := some 16, op := Op.load 30 (Operand.tmp 2), type := 30, pos := "ref.go:75", after := #[], guard := none }) rfl ?_ (AllReadyH.cons (i := 4) (o := { dst := some 20, op := Op.load 3 (Operand.tmp 19), type := 3, pos := "ref.go:75", after := #[{ on := 3, ground := Ground.data }], guard := none }) rfl ?_ AllReadyH.nil))
    · intro K1 hK1
      rw [if_pos (by rfl)]
      have hc0 : V0.cell? ⟨b2, 0, none⟩ = some (.slice (some ⟨g, 0, none⟩) n c) := hX0.out.1.cell rfl
      have hc1 : V0.cell? ⟨b2, 1, none⟩ = some (.slice a3 m c3) := hX0.out.1.cell rfl
      go_wp2
      clear hc0 hc1
      refine hK1.out _ _ hS0.out ?_
      clear hK1
      intro _
      try simp only [Act.put, List.setIfInBounds_toArray, List.set_cons_zero, List.set_cons_succ]
      refine wpAnyH_ready (rs := [4]) (by kernel_rfl) (by simp) (AllReadyH.cons (i := 4) (o := { dst := some 20, op := Op.load 3 (Operand.tmp 19), type := 3, pos := "ref.go:75", after := #[{ on := 3, ground := Ground.data }], guard := none }) rfl ?_ AllReadyH.nil)
      · intro K1 hK1
        rw [if_pos (by rfl)]
        have hc0 : V0.cell? ⟨g, 0, none⟩ = some (iv x) := hX0.out.2
        go_wp2
        clear hc0
        refine hK1.out _ _ hS0.out ?_
        clear hK1
        intro _
        try simp only [Act.put, List.setIfInBounds_toArray, List.set_cons_zero, List.set_cons_succ]
        refine wpAnyH_ready (rs := [7]) (by kernel_rfl) (by simp) (AllReadyH.cons (i := 7) (o := { dst := some 23, op := Op.call { callee := Callee.value (Operand.func 39), args := #[Operand.tmp 16, Operand.tmp 20, Operand.tmp 21, Operand.tmp 22], argTypes := #[30, 3, 3, 3] }, type := 30, pos := "ref.go:75", after := #[{ on := 0, ground := Ground.data }, { on := 4, ground := Ground.data }, { on := 5, ground := Ground.data }, { on := 6, ground := Ground.data }], guard := none }) rfl ?_ AllReadyH.nil)
        · intro K1 hK1
          rw [if_pos (by rfl)]
          have HC := HT
          go_wp2_with fail
          refine HC.mono ?_
          rintro e V4 ⟨wv1, ev1, rfl, hre⟩
          dsimp only
          clear HC
          have hS4 : Hid (Keep (fun j => j = b2) A V4) := (hS0.out).trans (Keep.below (S := fun j => j = b2) hre.2.1) (fun _ hj _ => hj)
          have hX4 : Hid (Blk V4 b2 30 [.slice (some ⟨g, 0, none⟩) n c, .slice a3 m c3]) := hX0.out.1.below hre.2.1 hX0.out.1.lt
          have HRE : Hid _ := hre
          clear hre
          refine hK1.out _ _ hS4.out ?_
          clear hK1
          intro _
          try simp only [Act.put, List.setIfInBounds_toArray, List.set_cons_zero, List.set_cons_succ]
          refine wpAnyH_ready (rs := [8]) (by kernel_rfl) (by simp) (AllReadyH.cons (i := 8) (o := { dst := none, op := Op.store 30 (Operand.tmp 2) (Operand.tmp 23), type := 0, pos := "ref.go:75", after := #[{ on := 7, ground := Ground.data }, { on := 7, ground := Ground.chain }, { on := 0, ground := Ground.phase }, { on := 1, ground := Ground.phase }, { on := 2, ground := Ground.phase }, { on := 3, ground := Ground.phase }, { on := 4, ground := Ground.phase }, { on := 5, ground := Ground.phase }, { on := 6, ground := Ground.phase }, { on := 7, ground := Ground.phase }], guard := none }) rfl ?_ AllReadyH.nil)
          · intro K1 hK1
            refine step_st2 (by rfl) 30 (.tmp 2) (.tmp 23) rfl b2 [wv1, ev1] 30 _ rfl rfl hX4.out (by simp) (by simpa using size30) (one_rq HRE.out.1) ?_
            intro V5 hb5 hg5
            have hS5 : Hid (Keep (fun j => j = b2) A V5) := (hS4.out).trans (Keep.grown (S := fun j => j = b2) hg5.out rfl) (fun _ hj _ => hj)
            have hK5 : Hid (Keep (fun j => j = b2) V4 V5) := Keep.grown hg5.out rfl
            refine hK1.out _ _ hS5.out ?_
            clear hK1
            intro _
            try simp only [Act.put, List.setIfInBounds_toArray, List.set_cons_zero, List.set_cons_succ]
            refine wpAnyH_done (by kernel_rfl) ?_ _
            exact hQ V5 _ _ _ (by rw [HV0.out]; exact HRE.out) hK5.out hb5.out
    · intro K1 hK1
      rw [if_pos (by rfl)]
      have hc0 : V0.cell? ⟨g, 0, none⟩ = some (iv x) := hX0.out.2
      go_wp2
      clear hc0
      refine hK1.out _ _ hS0.out ?_
      clear hK1
      intro _
      try simp only [Act.put, List.setIfInBounds_toArray, List.set_cons_zero, List.set_cons_succ]
      refine wpAnyH_ready (rs := [0]) (by kernel_rfl) (by simp) (AllReadyH.cons (i := 0) (o := { dst := some 16, op := Op.load 30 (Operand.tmp 2), type := 30, pos := "ref.go:75", after := #[], guard := none }) rfl ?_ AllReadyH.nil)
      · intro K1 hK1
        rw [if_pos (by rfl)]
        have hc0 : V0.cell? ⟨b2, 0, none⟩ = some (.slice (some ⟨g, 0, none⟩) n c) := hX0.out.1.cell rfl
        have hc1 : V0.cell? ⟨b2, 1, none⟩ = some (.slice a3 m c3) := hX0.out.1.cell rfl
        go_wp2
        clear hc0 hc1
        refine hK1.out _ _ hS0.out ?_
        clear hK1
        intro _
        try simp only [Act.put, List.setIfInBounds_toArray, List.set_cons_zero, List.set_cons_succ]
        refine wpAnyH_ready (rs := [7]) (by kernel_rfl) (by simp) (AllReadyH.cons (i := 7) (o := { dst := some 23, op := Op.call { callee := Callee.value (Operand.func 39), args := #[Operand.tmp 16, Operand.tmp 20, Operand.tmp 21, Operand.tmp 22], argTypes := #[30, 3, 3, 3] }, type := 30, pos := "ref.go:75", after := #[{ on := 0, ground := Ground.data }, { on := 4, ground := Ground.data }, { on := 5, ground := Ground.data }, { on := 6, ground := Ground.data }], guard := none }) rfl ?_ AllReadyH.nil)
        · intro K1 hK1
          rw [if_pos (by rfl)]
          have HC := HT
          go_wp2_with fail
          refine HC.mono ?_
          rintro e V4 ⟨wv1, ev1, rfl, hre⟩
          dsimp only
          clear HC
          have hS4 : Hid (Keep (fun j => j = b2) A V4) := (hS0.out).trans (Keep.below (S := fun j => j = b2) hre.2.1) (fun _ hj _ => hj)
          have hX4 : Hid (Blk V4 b2 30 [.slice (some ⟨g, 0, none⟩) n c, .slice a3 m c3]) := hX0.out.1.below hre.2.1 hX0.out.1.lt
          have HRE : Hid _ := hre
          clear hre
          refine hK1.out _ _ hS4.out ?_
          clear hK1
          intro _
          try simp only [Act.put, List.setIfInBounds_toArray, List.set_cons_zero, List.set_cons_succ]
          refine wpAnyH_ready (rs := [8]) (by kernel_rfl) (by simp) (AllReadyH.cons (i := 8) (o := { dst := none, op := Op.store 30 (Operand.tmp 2) (Operand.tmp 23), type := 0, pos := "ref.go:75", after := #[{ on := 7, ground := Ground.data }, { on := 7, ground := Ground.chain }, { on := 0, ground := Ground.phase }, { on := 1, ground := Ground.phase }, { on := 2, ground := Ground.phase }, { on := 3, ground := Ground.phase }, { on := 4, ground := Ground.phase }, { on := 5, ground := Ground.phase }, { on := 6, ground := Ground.phase }, { on := 7, ground := Ground.phase }], guard := none }) rfl ?_ AllReadyH.nil)
          · intro K1 hK1
            refine step_st2 (by rfl) 30 (.tmp 2) (.tmp 23) rfl b2 [wv1, ev1] 30 _ rfl rfl hX4.out (by simp) (by simpa using size30) (one_rq HRE.out.1) ?_
            intro V5 hb5 hg5
            have hS5 : Hid (Keep (fun j => j = b2) A V5) := (hS4.out).trans (Keep.grown (S := fun j => j = b2) hg5.out rfl) (fun _ hj _ => hj)
            have hK5 : Hid (Keep (fun j => j = b2) V4 V5) := Keep.grown hg5.out rfl
            refine hK1.out _ _ hS5.out ?_
            clear hK1
            intro _
            try simp only [Act.put, List.setIfInBounds_toArray, List.set_cons_zero, List.set_cons_succ]
            refine wpAnyH_done (by kernel_rfl) ?_ _
            exact hQ V5 _ _ _ (by rw [HV0.out]; exact HRE.out) hK5.out hb5.out
#print axioms rstep6
set_option maxRecDepth 100000 in
set_option maxHeartbeats 4000000 in
theorem rstep7 {Q : Exit → Act → World → Prop} {x0 x1 x3 x6 x7 x8 x9 x10 x11 x12 x13 x14 x15 x16 x17 x18 x19 x20 x21 x22 x23 x24 x25 x26 x27 x28 x29 x30 x31 x32 : Value} {ds : List Deferred} {A : World} {b2 b4 b5 ge oe n2 c2 n3 c3 m : Nat} {a2 : Option Addr} {X : Int × Int × Int}
    (HL : Hid (b2 < A.heap.size ∧ ¬ (b2 = b4 ∨ b2 = b5) ∧ ge < A.heap.size ∧ b4 ≠ b5 ∧ ¬ (ge = b4 ∨ ge = b5))) (HX : Hid (A.rangeAt b2 0 [.slice a2 n2 c2, .slice (some ⟨ge, oe, none⟩) n3 c3] ∧ A.rangeAt ge (oe + m * 3) (qd X))) (k1 : A.cell? ⟨b2, 1, none⟩ = some (.slice (some ⟨ge, oe, none⟩) n3 c3)) (HN : Hid (n3 = m + 1 ∧ m ≤ 4000000000000)) (HONE : Hid ((∀ v ∈ ([.slice a2 n2 c2, .slice (some ⟨ge, oe, none⟩) n3 c3] : List Value), v.oneCell' = true) ∧ ∀ v ∈ qd X, v.oneCell' = true)) (HY : Hid (Blk A b4 30 [.slice none 0 0, .slice none 0 0] ∧ Blk A b5 38 q0))
    (hQ : ∀ V1, (Blk V1 b4 30 [.slice a2 n2 c2, .slice (some ⟨ge, oe, none⟩) n3 c3] ∧ Blk V1 b5 38 (qd X)) → Keep (fun j => j = b4 ∨ j = b5) A V1 → Q .normal { tmps := #[x0, x1, .pointer (some ⟨b2, 0, none⟩), x3, .pointer (some ⟨b4, 0, none⟩), .pointer (some ⟨b5, 0, none⟩), iv 0, x7, x8, x9, x10, x11, x12, x13, x14, x15, x16, x17, x18, x19, x20, x21, x22, x23, .agg [.slice a2 n2 c2, .slice (some ⟨ge, oe, none⟩) n3 c3].toArray, .pointer (some ⟨b2, 1, none⟩), .slice (some ⟨ge, oe, none⟩) n3 c3, .pointer (some ⟨b2, 1, none⟩), .slice (some ⟨ge, oe, none⟩) n3 c3, iv (n3 : Int), iv (m : Int), .pointer (some ⟨ge, oe + m * 3, none⟩), .agg (qd X).toArray], defers := ds } V1) :
    (Code.region 7 #[{ dst := some 24, op := Op.load 30 (Operand.tmp 2), type := 30, pos := "ref.go:76", after := #[], guard := none }, { dst := some 25, op := Op.fieldAddr 30 (Operand.tmp 2) 1, type := 0, pos := "ref.go:76", after := #[{ on := 9, ground := Ground.gcOnly Departure.lateStores }], guard := none }, { dst := some 26, op := Op.load 28 (Operand.tmp 25), type := 28, pos := "ref.go:76", after := #[{ on := 1, ground := Ground.data }, { on := 9, ground := Ground.gcOnly Departure.lateStores }], guard := none }, { dst := some 27, op := Op.fieldAddr 30 (Operand.tmp 2) 1, type := 0, pos := "ref.go:76", after := #[], guard := none }, { dst := some 28, op := Op.load 28 (Operand.tmp 27), type := 28, pos := "ref.go:76", after := #[{ on := 3, ground := Ground.data }], guard := none }, { dst := some 29, op := Op.call { callee := Callee.builtin Builtin.len, args := #[Operand.tmp 28], argTypes := #[28] }, type := 3, pos := "ref.go:76", after := #[{ on := 4, ground := Ground.data }], guard := none }, { dst := some 30, op := Op.binOp BinOp.sub 3 (Operand.tmp 29) (Operand.const (Value.int IntKind.i64 1)) 3, type := 3, pos := "ref.go:76", after := #[{ on := 5, ground := Ground.data }, { on := 9, ground := Ground.gcOnly Departure.lateStores }], guard := none }, { dst := some 31, op := Op.indexAddr 28 (Operand.tmp 26) (Operand.tmp 30), type := 0, pos := "ref.go:76", after := #[{ on := 2, ground := Ground.data }, { on := 6, ground := Ground.data }, { on := 9, ground := Ground.gcOnly Departure.lateStores }], guard := none }, { dst := some 32, op := Op.load 38 (Operand.tmp 31), type := 38, pos := "ref.go:76", after := #[{ on := 7, ground := Ground.data }, { on := 9, ground := Ground.gcOnly Departure.lateStores }], guard := none }, { dst := none, op := Op.store 30 (Operand.tmp 4) (Operand.tmp 24), type := 0, pos := "ref.go:76", after := #[{ on := 0, ground := Ground.data }, { on := 0, ground := Ground.phase }, { on := 1, ground := Ground.textOnly Departure.lateStores }, { on := 2, ground := Ground.textOnly Departure.lateStores }, { on := 3, ground := Ground.textOnly Departure.lateStores }, { on := 4, ground := Ground.textOnly Departure.lateStores }, { on := 5, ground := Ground.textOnly Departure.lateStoresUnsure }, { on := 6, ground := Ground.textOnly Departure.lateStores }, { on := 7, ground := Ground.textOnly Departure.lateStores }, { on := 8, ground := Ground.textOnly Departure.lateStores }], guard := none }, { dst := none, op := Op.store 38 (Operand.tmp 5) (Operand.tmp 32), type := 0, pos := "ref.go:76", after := #[{ on := 8, ground := Ground.data }, { on := 9, ground := Ground.chain }, { on := 0, ground := Ground.phase }, { on := 1, ground := Ground.phase }, { on := 2, ground := Ground.phase }, { on := 3, ground := Ground.phase }, { on := 4, ground := Ground.phase }, { on := 5, ground := Ground.phase }, { on := 6, ground := Ground.phase }, { on := 7, ground := Ground.phase }, { on := 8, ground := Ground.phase }, { on := 9, ground := Ground.phase }], guard := none }, { dst := some 6, op := Op.assign (Operand.const (Value.int IntKind.i64 0)), type := 3, pos := "ref.go:76", after := #[{ on := 10, ground := Ground.chain }, { on := 0, ground := Ground.phase }, { on := 1, ground := Ground.phase }, { on := 2, ground := Ground.phase }, { on := 3, ground := Ground.phase }, { on := 4, ground := Ground.phase }, { on := 5, ground := Ground.phase }, { on := 6, ground := Ground.phase }, { on := 7, ground := Ground.phase }, { on := 8, ground := Ground.phase }, { on := 9, ground := Ground.phase }, { on := 10, ground := Ground.phase }], guard := none }] true).wp Try.prog Q { tmps := #[x0, x1, .pointer (some ⟨b2, 0, none⟩), x3, .pointer (some ⟨b4, 0, none⟩), .pointer (some ⟨b5, 0, none⟩), x6, x7, x8, x9, x10, x11, x12, x13, x14, x15, x16, x17, x18, x19, x20, x21, x22, x23, x24, x25, x26, x27, x28, x29, x30, x31, x32], defers := ds } A := by
  refine Code.wp_mono (Q := fun x a' w' => match x with | .normal => Q .normal a' w' | _ => False) (by intro x a' w' h; cases x <;> first | exact h | exact h.elim) ?_
  refine wp_region_held (S := fun V => Keep (fun j => j = b4 ∨ j = b5) A V) (by kernel_rfl) ?_
  have hS0 : Hid (Keep (fun j => j = b4 ∨ j = b5) A A.drew) := (Keep.refl _ A).drew
  change wpAnyH Try.prog .any _ _ (fun V => Keep (fun j => j = b4 ∨ j = b5) A V) 12 (Array.replicate 12 false) _ A.drew
  obtain ⟨V0, hV0⟩ : ∃ V0, A.drew = V0 := ⟨_, rfl⟩
  rw [hV0]
  rw [hV0] at hS0
  have hY0 : Hid (Blk V0 b4 30 [.slice none 0 0, .slice none 0 0] ∧ Blk V0 b5 38 q0) := by rw [← hV0]; exact HY.out
  clear hV0
  refine wpAnyH_take (i := 0) (oi := { dst := some 24, op := Op.load 30 (Operand.tmp 2), type := 30, pos := "ref.go:76", after := #[], guard := none }) (v := .agg [.slice a2 n2 c2, .slice (some ⟨ge, oe, none⟩) n3 c3].toArray) rfl (by kernel_rfl) (by kernel_rfl) (by kernel_rfl) (fun _ _ _ h => h.elim) (yieldsIf_load_mid (by rfl) _ _ rfl _ _ rfl ([.slice a2 n2 c2, .slice (some ⟨ge, oe, none⟩) n3 c3]) _ (fun V hV => rangeAt_same (HX.out.1) ((show Keep (fun j => j = b4 ∨ j = b5) A V from hV).block _ (HL.out.1) (HL.out.2.1))) Try.underlying30 rfl (size30)) hS0.out ?_
  simp only [Act.put, List.setIfInBounds_toArray, List.set_cons_zero, List.set_cons_succ]
  refine wpAnyH_take (i := 1) (oi := { dst := some 25, op := Op.fieldAddr 30 (Operand.tmp 2) 1, type := 0, pos := "ref.go:76", after := #[{ on := 9, ground := Ground.gcOnly Departure.lateStores }], guard := none }) (v := .pointer (some ⟨b2, 1, none⟩)) rfl (by kernel_rfl) (by kernel_rfl) (by kernel_rfl) (fun _ _ _ h => h.elim) (Or.inl ⟨by rfl, ?y1⟩) hS0.out ?_
  case y1 =>
    intro V hV
    go_simp
  simp only [Act.put, List.setIfInBounds_toArray, List.set_cons_zero, List.set_cons_succ]
  refine wpAnyH_take (i := 2) (oi := { dst := some 26, op := Op.load 28 (Operand.tmp 25), type := 28, pos := "ref.go:76", after := #[{ on := 1, ground := Ground.data }, { on := 9, ground := Ground.gcOnly Departure.lateStores }], guard := none }) (v := .slice (some ⟨ge, oe, none⟩) n3 c3) rfl (by kernel_rfl) (by kernel_rfl) (by kernel_rfl) (fun _ _ _ h => h.elim) (Or.inl ⟨by rfl, ?y2⟩) hS0.out ?_
  case y2 =>
    intro V hV
    have hc : V.cell? ⟨b2, 1, none⟩ = some (.slice (some ⟨ge, oe, none⟩) n3 c3) := (World.cell?_of_block (a := ⟨b2, 1, none⟩) ((show Keep (fun j => j = b4 ∨ j = b5) A V from hV).block b2 (HL.out.1) (HL.out.2.1))).trans k1
    go_simp
  simp only [Act.put, List.setIfInBounds_toArray, List.set_cons_zero, List.set_cons_succ]
  refine wpAnyH_take (i := 3) (oi := { dst := some 27, op := Op.fieldAddr 30 (Operand.tmp 2) 1, type := 0, pos := "ref.go:76", after := #[], guard := none }) (v := .pointer (some ⟨b2, 1, none⟩)) rfl (by kernel_rfl) (by kernel_rfl) (by kernel_rfl) (fun _ _ _ h => h.elim) (Or.inl ⟨by rfl, ?y3⟩) hS0.out ?_
  case y3 =>
    intro V hV
    go_simp
  simp only [Act.put, List.setIfInBounds_toArray, List.set_cons_zero, List.set_cons_succ]
  refine wpAnyH_take (i := 4) (oi := { dst := some 28, op := Op.load 28 (Operand.tmp 27), type := 28, pos := "ref.go:76", after := #[{ on := 3, ground := Ground.data }], guard := none }) (v := .slice (some ⟨ge, oe, none⟩) n3 c3) rfl (by kernel_rfl) (by kernel_rfl) (by kernel_rfl) (fun _ _ _ h => h.elim) (Or.inl ⟨by rfl, ?y4⟩) hS0.out ?_
  case y4 =>
    intro V hV
    have hc : V.cell? ⟨b2, 1, none⟩ = some (.slice (some ⟨ge, oe, none⟩) n3 c3) := (World.cell?_of_block (a := ⟨b2, 1, none⟩) ((show Keep (fun j => j = b4 ∨ j = b5) A V from hV).block b2 (HL.out.1) (HL.out.2.1))).trans k1
    go_simp
  simp only [Act.put, List.setIfInBounds_toArray, List.set_cons_zero, List.set_cons_succ]
  refine wpAnyH_take (i := 5) (oi := { dst := some 29, op := Op.call { callee := Callee.builtin Builtin.len, args := #[Operand.tmp 28], argTypes := #[28] }, type := 3, pos := "ref.go:76", after := #[{ on := 4, ground := Ground.data }], guard := none }) (v := iv (n3 : Int)) rfl (by kernel_rfl) (by kernel_rfl) (by kernel_rfl) (fun _ _ _ h => h.elim) (Or.inl ⟨by rfl, ?y5⟩) hS0.out ?_
  case y5 =>
    intro V hV
    go_simp
  simp only [Act.put, List.setIfInBounds_toArray, List.set_cons_zero, List.set_cons_succ]
  refine wpAnyH_take (i := 6) (oi := { dst := some 30, op := Op.binOp BinOp.sub 3 (Operand.tmp 29) (Operand.const (Value.int IntKind.i64 1)) 3, type := 3, pos := "ref.go:76", after := #[{ on := 5, ground := Ground.data }, { on := 9, ground := Ground.gcOnly Departure.lateStores }], guard := none }) (v := iv (m : Int)) rfl (by kernel_rfl) (by kernel_rfl) (by kernel_rfl) (fun _ _ _ h => h.elim) (Or.inl ⟨by rfl, ?y6⟩) hS0.out ?_
  case y6 =>
    intro V hV
    have q1 := HN.out
    have hwr : IntKind.i64.wrap ((n3 : Int) - 1) = (m : Int) := by rw [IntKind.wrap_i64]; omega
    clear q1
    go_simp
  simp only [Act.put, List.setIfInBounds_toArray, List.set_cons_zero, List.set_cons_succ]
  refine wpAnyH_take (i := 7) (oi := { dst := some 31, op := Op.indexAddr 28 (Operand.tmp 26) (Operand.tmp 30), type := 0, pos := "ref.go:76", after := #[{ on := 2, ground := Ground.data }, { on := 6, ground := Ground.data }, { on := 9, ground := Ground.gcOnly Departure.lateStores }], guard := none }) (v := .pointer (some ⟨ge, oe + m * 3, none⟩)) rfl (by kernel_rfl) (by kernel_rfl) (by kernel_rfl) (fun _ _ _ h => h.elim) (Or.inl ⟨by rfl, ?y7⟩) hS0.out ?_
  case y7 =>
    intro V hV
    have q1 := HN.out
    have q2 : (m : Int) < (n3 : Int) := by omega
    have q3 : m < n3 := by omega
    clear q1
    go_simp
  simp only [Act.put, List.setIfInBounds_toArray, List.set_cons_zero, List.set_cons_succ]
  refine wpAnyH_take (i := 8) (oi := { dst := some 32, op := Op.load 38 (Operand.tmp 31), type := 38, pos := "ref.go:76", after := #[{ on := 7, ground := Ground.data }, { on := 9, ground := Ground.gcOnly Departure.lateStores }], guard := none }) (v := .agg (qd X).toArray) rfl (by kernel_rfl) (by kernel_rfl) (by kernel_rfl) (fun _ _ _ h => h.elim) (yieldsIf_load_mid (by rfl) _ _ rfl _ _ rfl (qd X) _ (fun V hV => rangeAt_same (HX.out.2) ((show Keep (fun j => j = b4 ∨ j = b5) A V from hV).block _ (HL.out.2.2.1) (HL.out.2.2.2.2))) Try.underlying38 rfl (size38)) hS0.out ?_
  simp only [Act.put, List.setIfInBounds_toArray, List.set_cons_zero, List.set_cons_succ]
  refine wpAnyH_ready (rs := [9]) (by kernel_rfl) (by simp) (AllReadyH.cons (i := 9) (o := { dst := none, op := Op.store 30 (Operand.tmp 4) (Operand.tmp 24), type := 0, pos := "ref.go:76", after := #[{ on := 0, ground := Ground.data }, { on := 0, ground := Ground.phase }, { on := 1, ground := Ground.textOnly Departure.lateStores }, { on := 2, ground := Ground.textOnly Departure.lateStores }, { on := 3, ground := Ground.textOnly Departure.lateStores }, { on := 4, ground := Ground.textOnly Departure.lateStores }, { on := 5, ground := Ground.textOnly Departure.lateStoresUnsure }, { on := 6, ground := Ground.textOnly Departure.lateStores }, { on := 7, ground := Ground.textOnly Departure.lateStores }, { on := 8, ground := Ground.textOnly Departure.lateStores }], guard := none }) rfl ?_ AllReadyH.nil)
  · intro K1 hK1
    refine step_st2 (by rfl) 30 (.tmp 4) (.tmp 24) rfl b4 [.slice a2 n2 c2, .slice (some ⟨ge, oe, none⟩) n3 c3] 30 _ rfl rfl hY0.out.1 (by simp [qd, q0]) (by first | exact size30 | exact size38) HONE.out.1 ?_
    intro V1 hb1 hg1
    have hS1 : Hid (Keep (fun j => j = b4 ∨ j = b5) A V1) := (hS0.out).trans (Keep.grown (S := fun j => j = b4 ∨ j = b5) hg1.out (.inl rfl)) (fun _ hj _ => hj)
    have hY1 : Hid (Blk V1 b4 30 [.slice a2 n2 c2, .slice (some ⟨ge, oe, none⟩) n3 c3] ∧ Blk V1 b5 38 q0) := ⟨hb1.out, hY0.out.2.kept hg1.out (fun e => by injection e with e; exact HL.out.2.2.2.1 e.symm)⟩
    refine hK1.out _ _ hS1.out ?_
    clear hK1
    intro _
    try simp only [Act.put, List.setIfInBounds_toArray, List.set_cons_zero, List.set_cons_succ]
    refine wpAnyH_ready (rs := [10]) (by kernel_rfl) (by simp) (AllReadyH.cons (i := 10) (o := { dst := none, op := Op.store 38 (Operand.tmp 5) (Operand.tmp 32), type := 0, pos := "ref.go:76", after := #[{ on := 8, ground := Ground.data }, { on := 9, ground := Ground.chain }, { on := 0, ground := Ground.phase }, { on := 1, ground := Ground.phase }, { on := 2, ground := Ground.phase }, { on := 3, ground := Ground.phase }, { on := 4, ground := Ground.phase }, { on := 5, ground := Ground.phase }, { on := 6, ground := Ground.phase }, { on := 7, ground := Ground.phase }, { on := 8, ground := Ground.phase }, { on := 9, ground := Ground.phase }], guard := none }) rfl ?_ AllReadyH.nil)
    · intro K1 hK1
      refine step_st2 (by rfl) 38 (.tmp 5) (.tmp 32) rfl b5 (qd X) 38 _ rfl rfl hY1.out.2 (by simp [qd, q0]) (by first | exact size30 | exact size38) HONE.out.2 ?_
      intro V2 hb2 hg2
      have hS2 : Hid (Keep (fun j => j = b4 ∨ j = b5) A V2) := (hS1.out).trans (Keep.grown (S := fun j => j = b4 ∨ j = b5) hg2.out (.inr rfl)) (fun _ hj _ => hj)
      have hY2 : Hid (Blk V2 b4 30 [.slice a2 n2 c2, .slice (some ⟨ge, oe, none⟩) n3 c3] ∧ Blk V2 b5 38 (qd X)) := ⟨hY1.out.1.kept hg2.out (fun e => by injection e with e; exact HL.out.2.2.2.1 e), hb2.out⟩
      refine hK1.out _ _ hS2.out ?_
      clear hK1
      intro _
      try simp only [Act.put, List.setIfInBounds_toArray, List.set_cons_zero, List.set_cons_succ]
      refine wpAnyH_take (i := 11) (oi := { dst := some 6, op := Op.assign (Operand.const (Value.int IntKind.i64 0)), type := 3, pos := "ref.go:76", after := #[{ on := 10, ground := Ground.chain }, { on := 0, ground := Ground.phase }, { on := 1, ground := Ground.phase }, { on := 2, ground := Ground.phase }, { on := 3, ground := Ground.phase }, { on := 4, ground := Ground.phase }, { on := 5, ground := Ground.phase }, { on := 6, ground := Ground.phase }, { on := 7, ground := Ground.phase }, { on := 8, ground := Ground.phase }, { on := 9, ground := Ground.phase }, { on := 10, ground := Ground.phase }], guard := none }) (v := iv 0) rfl (by kernel_rfl) (by kernel_rfl) (by kernel_rfl) (fun _ _ _ h => h.elim) (Or.inl ⟨by rfl, ?y8⟩) hS2.out ?_
      case y8 =>
        intro V hV
        go_simp
      simp only [Act.put, List.setIfInBounds_toArray, List.set_cons_zero, List.set_cons_succ]
      refine wpAnyH_done (by kernel_rfl) ?_ _
      exact hQ V2 hY2.out hS2.out
#print axioms rstep7
end Go.Proofs.Ytipipckbcelphaa.Oct
