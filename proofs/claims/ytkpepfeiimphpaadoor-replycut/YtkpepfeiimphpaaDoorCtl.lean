/-
  Layer 24 (reply): the law ReplyCut.
-/
import Derived.Test.YtkpepfeiimphpaaDoorBck
import Derived.BigFrame
namespace Go.Proofs.YtkpepfeiimphpaaDoor.Oct
open Go.RowKit
set_option linter.unusedSimpArgs false
set_option linter.unusedVariables false

theorem wpList_load_want {ops : Array Oper} {rest : List Oper} {o : Oper} {a : Act} {w : World} {Q : Exit → Act → World → Prop} (hw : Region.wanted o (yielded ops a.tmps) = true) (ty : TypeId) (x : Operand) (ho : o.op = .load ty x)
    (b p : Nat) (hx : a.eval x = .pointer (some ⟨b, p, none⟩)) (cs : List Value) (d : TypeDesc) (hc : w.rangeAt b p cs)
    (hu : Tryd.prog.underlying ty = some d) (hd : d.isRow = true) (hi : (Tryd.prog.info? ty).map (·.size) = some cs.length)
    (h : wpList Tryd.prog ops Q rest (a.put o.dst (.agg cs.toArray)) w) : wpList Tryd.prog ops Q (o :: rest) a w :=
  Go.BigFrame.wpList_want hw fun _ hK => wp_load_mid ty x ho b p hx cs d hc hu hd hi (hK _ _ h)
set_option maxRecDepth 100000 in
set_option maxHeartbeats 4000000 in
theorem cut_law (st : Int) (ty bo : BA) (cl : Bool) (st' : Int) (ty' bo' : BA) (cl' : Bool) (cut : Int) (w : World) (hp : PT w) (hm : MX w) (hx : SX w) (hty : ty.size ≤ 140737488355328) (hbo : bo.size ≤ 140737488355328) (hty' : ty'.size ≤ 140737488355328) (hbo' : bo'.size ≤ 140737488355328) : Calls Tryd.prog 6 #[.agg #[iv st, .string ty, .string bo, .bool cl], .agg #[iv st', .string ty', .string bo', .bool cl'], iv cut] w fun e w' => e = .returned (.bool true) ∧ Below w.heap.size w w' := by
  obtain ⟨b, hb⟩ : ∃ b, w.heap.size = b := ⟨_, rfl⟩
  obtain ⟨C, hC⟩ : ∃ A, w.alloc (.cells #[iv st, .string ty, .string bo, .bool cl] 23) = A := ⟨_, rfl⟩
  obtain ⟨c, hc⟩ : ∃ b, C.heap.size = b := ⟨_, rfl⟩
  obtain ⟨A, hA⟩ : ∃ A, C.alloc (.cells #[iv st', .string ty', .string bo', .bool cl'] 23) = A := ⟨_, rfl⟩
  have hB0 : Below w.heap.size w C := by rw [← hC]; exact below_al _ _
  have hB1 : Below C.heap.size C A := by rw [← hA]; exact below_al _ _
  have h1 : Blk C b 23 (rpc st ty bo cl) := by rw [← hC, ← hb]; exact Blk.new w _ _
  have h2 : Blk A b 23 (rpc st ty bo cl) := h1.below hB1 h1.lt
  have h3 : Blk A c 23 (rpc st' ty' bo' cl') := by rw [← hA, ← hc]; exact Blk.new C _ _
  have HA : Hid (KB w A [(b, rpc st ty bo cl), (c, rpc st' ty' bo' cl')]) := ⟨below_tr hB0 hB1, fun p hp => by
    simp only [List.mem_cons, List.not_mem_nil, or_false] at hp
    have := hB0.size
    rcases hp with rfl | rfl
    · exact ⟨h2, by omega⟩
    · exact ⟨h3, by omega⟩⟩
  have HP : Hid (PT w ∧ MX w ∧ SX w) := ⟨hp, hm, hx⟩
  have c1 : A.cell? ⟨b, 1, none⟩ = some (.string ty) := h2.cell rfl
  have c2 : A.cell? ⟨b, 2, none⟩ = some (.string bo) := h2.cell rfl
  have c3 : A.cell? ⟨c, 1, none⟩ = some (.string ty') := h3.cell rfl
  have c4 : A.cell? ⟨c, 2, none⟩ = some (.string bo') := h3.cell rfl
  obtain ⟨n, hn⟩ : ∃ n, bo.size = n := ⟨_, rfl⟩
  obtain ⟨m, hm2⟩ : ∃ n, ty.size = n := ⟨_, rfl⟩
  obtain ⟨n', hn'⟩ : ∃ n, bo'.size = n := ⟨_, rfl⟩
  obtain ⟨m', hm'⟩ : ∃ n, ty'.size = n := ⟨_, rfl⟩
  have qn : (n : Int) ≤ 140737488355328 := by omega
  have qm : (m : Int) ≤ 140737488355328 := by omega
  have qn' : (n' : Int) ≤ 140737488355328 := by omega
  have qm' : (m' : Int) ≤ 140737488355328 := by omega
  clear hp hm hx hty hbo hty' hbo' hB0 hB1 h1 h2 h3
  have BIG : (70000 : Int) < (n : Int) + (n' : Int) ∨ (70000 : Int) < (m : Int) + (m' : Int) → Calls Tryd.prog 6 #[.agg #[iv st, .string ty, .string bo, .bool cl], .agg #[iv st', .string ty', .string bo', .bool cl'], iv cut] w fun e w' => e = .returned (.bool true) ∧ Below w.heap.size w w' := by
    intro hbig
    have HLV := lives_is A (HP.out.1.below HA.out.1)
    by_cases h1 : (70000 : Int) < (n : Int) + (n' : Int)
    · clear hbig
      go_enter Tryd.func6, Tryd.ntmps6
      go_wp2_with fail
      refine HLV.mono ?_
      rintro e V ⟨rfl, hbV⟩
      have HV : Hid (Below w.heap.size w V) := below_tr HA.out.1 hbV
      clear HLV hbV hA hb hC hc
      go_wp2
      go_ret
      exact ⟨rfl, HV.out⟩
    · have q1 : (n : Int) + (n' : Int) ≤ 70000 := by omega
      have h2 := hbig.resolve_left h1
      clear hbig h1
      go_enter Tryd.func6, Tryd.ntmps6
      go_wp2_with fail
      refine HLV.mono ?_
      rintro e V ⟨rfl, hbV⟩
      have HV : Hid (Below w.heap.size w V) := below_tr HA.out.1 hbV
      clear HLV hbV hA hb hC hc
      go_wp2
      go_ret
      exact ⟨rfl, HV.out⟩
  by_cases h1 : (70000 : Int) < (n : Int) + (n' : Int)
  · exact BIG (.inl h1)
  by_cases h2 : (70000 : Int) < (m : Int) + (m' : Int)
  · exact BIG (.inr h2)
  clear BIG
  have q1 : (n : Int) + (n' : Int) ≤ 70000 := by omega
  have q2 : (m : Int) + (m' : Int) ≤ 70000 := by omega
  have HS : Hid (ty.size + ty'.size ≤ 70000 ∧ bo.size + bo'.size ≤ 70000) := ⟨by rw [hm2, hm']; omega, by rw [hn, hn']; omega⟩
  clear h1 h2
  go_enter Tryd.func6, Tryd.ntmps6
  go_wp2_with (with_reducible change wpList _ _ _ ({ dst := some 39, op := _, type := _, pos := _, after := _, guard := _ } :: _) _ _; refine Hid.out ?_)
  show wpList _ _ _ _ _ _
  refine wpList_load_row rfl 23 (.tmp 3) rfl b rfl 23 (rpc st ty bo cl).toArray (0, 0) _ ((HA.out.2 (b, rpc st ty bo cl) (by simp)).1) Tryd.underlying23 rfl size23 ?_
  simp only [Act.put, List.setIfInBounds_toArray, List.set_cons_zero, List.set_cons_succ]
  go_wp2_with fail
  refine (print_w st ty bo cl A (HP.out.1.below HA.out.1) (by have := HS.out; omega) (by have := HS.out; omega)).mono ?_
  rintro e W1 ⟨s, rfl, hs, hbW⟩
  have H1 : Hid (KB w W1 [(b, rpc st ty bo cl), (c, rpc st' ty' bo' cl')]) := HA.out.below hbW
  obtain ⟨p, hp⟩ : ∃ p, prL st ty bo cl = p := ⟨_, rfl⟩
  have HPR : Hid (prL st ty bo cl = p ∧ s.data.toList = p.1) := ⟨hp, by rw [← hp]; exact hs.out⟩
  rw [hp]
  clear hp hs hbW HA hA hb hC hc c1 c2 c3 c4
  obtain ⟨e1, he1⟩ : ∃ e, p.2 = e := ⟨_, rfl⟩
  have HE1 : Hid (p.2 = e1) := he1
  rw [he1]
  clear he1
  go_wp2_with (with_reducible change wpList _ _ _ ({ dst := some 44, op := _, type := _, pos := _, after := _, guard := _ } :: _) _ _; refine Hid.out ?_)
  show wpList _ _ _ _ _ _
  refine wpList_load_row rfl 23 (.tmp 4) rfl c rfl 23 (rpc st' ty' bo' cl').toArray (0, 0) _ ((H1.out.2 (c, rpc st' ty' bo' cl') (by simp)).1) Tryd.underlying23 rfl size23 ?_
  simp only [Act.put, List.setIfInBounds_toArray, List.set_cons_zero, List.set_cons_succ]
  go_wp2_with fail
  refine (print_w st' ty' bo' cl' W1 (HP.out.1.below H1.out.1) (by have := HS.out; omega) (by have := HS.out; omega)).mono ?_
  rintro e W2 ⟨t, rfl, ht, hbW⟩
  have H2 : Hid (KB w W2 [(b, rpc st ty bo cl), (c, rpc st' ty' bo' cl')]) := H1.out.below hbW
  obtain ⟨p', hp'⟩ : ∃ p, prL st' ty' bo' cl' = p := ⟨_, rfl⟩
  have HPT : Hid (prL st' ty' bo' cl' = p' ∧ t.data.toList = p'.1) := ⟨hp', by rw [← hp']; exact ht.out⟩
  rw [hp']
  clear hp' ht hbW H1
  obtain ⟨e2, he2⟩ : ∃ e, p'.2 = e := ⟨_, rfl⟩
  have HE2 : Hid (p'.2 = e2) := he2
  rw [he2]
  clear he2
  by_cases h1 : e1 = 0
  rotate_left
  · have q5 : (e1 != 0) = true := by simpa using h1
    have HLV := lives_is W2 (HP.out.1.below H2.out.1)
    clear h1
    go_wp2_with fail
    refine HLV.mono ?_
    rintro e V ⟨rfl, hbV⟩
    have HV : Hid (Below w.heap.size w V) := below_tr H2.out.1 hbV
    clear HLV hbV
    go_wp2
    go_ret
    exact ⟨rfl, HV.out⟩
  by_cases h2 : e2 = 0
  rotate_left
  · have q5 : (e2 != 0) = true := by simpa using h2
    have HLV := lives_is W2 (HP.out.1.below H2.out.1)
    subst h1
    clear h2
    go_wp2_with fail
    refine HLV.mono ?_
    rintro e V ⟨rfl, hbV⟩
    have HV : Hid (Below w.heap.size w V) := below_tr H2.out.1 hbV
    clear HLV hbV
    go_wp2
    go_ret
    exact ⟨rfl, HV.out⟩
  subst h1 h2
  have HZ : Hid (p.1.length ≤ bo.size + 4000 ∧ 0 < p.1.length) := by have := prL_sz (st := st) (ty := ty) (bo := bo) (cl := cl) (by rw [HPR.out.1]; exact HE1.out); rw [HPR.out.1] at this; exact ⟨this.1, this.2.1⟩
  have HZ' : Hid (p'.1.length ≤ bo'.size + 4000 ∧ 0 < p'.1.length) := by have := prL_sz (st := st') (ty := ty') (bo := bo') (cl := cl') (by rw [HPT.out.1]; exact HE2.out); rw [HPT.out.1] at this; exact ⟨this.1, this.2.1⟩
  have es : s.size = p.1.length := by show s.data.toList.length = _; rw [HPR.out.2]
  have et : t.size = p'.1.length := by show t.data.toList.length = _; rw [HPT.out.2]
  obtain ⟨z, hz⟩ : ∃ z, s.size = z := ⟨_, rfl⟩
  obtain ⟨y, hy⟩ : ∃ z, t.size = z := ⟨_, rfl⟩
  have HY : Hid (s.size = z ∧ t.size = y ∧ p.1.length = z ∧ p'.1.length = y ∧ 0 < z ∧ 0 < y ∧ z + y ≤ 78000) := by
    have := HZ.out; have := HZ'.out; have := HS.out
    refine ⟨hz, hy, ?_, ?_, ?_, ?_, ?_⟩ <;> omega
  have q5 : s.toList.isEmpty = false := by
    rw [toList_d]
    cases h : s.data.toList with
    | nil => have h3 : s.data.toList.length = s.size := rfl; rw [h] at h3; have := HY.out; simp at h3; omega
    | cons a l => rfl
  have q6 : t.toList.isEmpty = false := by
    rw [toList_d]
    cases h : t.data.toList with
    | nil => have h3 : t.data.toList.length = t.size := rfl; rw [h] at h3; have := HY.out; simp at h3; omega
    | cons a l => rfl
  have q7 : (z : Int) ≤ 78000 := by have := HY.out; omega
  have q8 : (y : Int) ≤ 78000 := by have := HY.out; omega
  have q9 : ((z : Int) == 0) = false := by have := HY.out; simp; omega
  have hU : 0 ≤ IntKind.u64.wrap cut := by simp [IntKind.wrap, IntKind.signed, IntKind.bits]; omega
  obtain ⟨P, hP, hPz⟩ : ∃ k : Nat, (IntKind.u64.wrap cut).tmod (z : Int) = (k : Int) ∧ k < z := by
    have hzz : (0 : Int) < (z : Int) := by have := HY.out; omega
    have h1 : 0 ≤ (IntKind.u64.wrap cut).tmod (z : Int) := Int.tmod_nonneg _ hU
    have h2 := Int.tmod_lt_of_pos (IntKind.u64.wrap cut) hzz
    exact ⟨((IntKind.u64.wrap cut).tmod (z : Int)).toNat, by omega, by omega⟩
  have qP : (P : Int) < (z : Int) := by omega
  have HPZ : Hid (P < z) := hPz
  clear hPz hU es et
  go_wp2_with fail
  obtain ⟨u, hu⟩ : ∃ u, s.extract 0 P = u := ⟨_, rfl⟩
  have HU : Hid (u.data.toList = p.1.take P ∧ u.size ≤ 140000) := by
    have e1 : u.data.toList = p.1.take P := by rw [← hu, ← toList_d, ext_to, HPR.out.2]
    refine ⟨e1, ?_⟩
    show u.data.toList.length ≤ _
    rw [e1, List.length_take]
    have := HPZ.out; have := HY.out
    omega
  rw [hu]
  clear hu
  refine (read_is u HU.out.2 W2 (HP.out.1.below H2.out.1) (HP.out.2.1.below H2.out.1) (HP.out.2.2.below H2.out.1)).mono ?_
  rintro e W3 ⟨hr, hbW⟩
  rw [HU.out.1] at hr
  obtain rfl := rd_cut (st := st) (ty := ty) (bo := bo) (cl := cl) (l := p.1) (k := P) (by rw [HPR.out.1]; exact HE1.out) (by rw [HPR.out.1]) (by have := HPZ.out; have := HY.out; omega) hr
  have H3 : Hid (KB w W3 [(b, rpc st ty bo cl), (c, rpc st' ty' bo' cl')]) := H2.out.below hbW
  clear hr hbW H2 hP qP
  go_wp2_with (with_reducible change wpList _ _ _ ({ dst := none, op := Op.store 23 _ _, type := _, pos := _, after := _, guard := _ } :: _) _ _; refine Hid.out ?_)
  show wpList _ _ _ _ _ _
  refine wpList_store_blk rfl 23 (.tmp 11) (.tmp 72) rfl W3.heap.size 0 23 _ (rpc 0 e0 e0 false) rfl rfl (Blk.new W3 _ _) (by show 4 ≤ 4; exact Nat.le_refl _) size23 (rpc_one _ _ _ _) ?_
  intro W4 hx hg
  obtain ⟨b4, hb4⟩ : ∃ b, W3.heap.size = b := ⟨_, rfl⟩
  have H4 : Hid (KB w W4 _) := H3.out.push hx hg
  rw [hb4] at H4 ⊢
  clear hx hg H3 hb4
  have qs : s.size ≤ 78000 := by have := HY.out; omega
  have qt : t.size ≤ 78000 := by have := HY.out; omega
  go_wp2_with fail
  obtain ⟨v, hv⟩ : ∃ v, s ++ t = v := ⟨_, rfl⟩
  have HV : Hid (v.data.toList = p.1 ++ p'.1 ∧ v.size = z + y) := by
    have e1 : v.data.toList = p.1 ++ p'.1 := by rw [← hv, ← HPR.out.2, ← HPT.out.2]; simp [ByteArray.data_append]
    refine ⟨e1, ?_⟩
    show v.data.toList.length = _
    rw [e1, List.length_append]
    have := HY.out
    omega
  rw [hv]
  refine (read_is v (by rw [HV.out.2]; have := HY.out; omega) W4 (HP.out.1.below H4.out.1) (HP.out.2.1.below H4.out.1) (HP.out.2.2.below H4.out.1)).mono ?_
  rintro e W5 ⟨hr, hbW⟩
  obtain rfl := rd_is (st := st) (ty := ty) (bo := bo) (cl := cl) hr (by rw [HPR.out.1]; exact HE1.out) (by rw [HV.out.1, HPR.out.1]; exact aftB_app _ _)
  have H5 : Hid (KB w W5 [(b4, rpc 0 e0 e0 false), (b, rpc st ty bo cl), (c, rpc st' ty' bo' cl')]) := H4.out.below hbW
  rw [HPR.out.1, HY.out.2.2.1]
  clear hr hbW H4
  go_wp2_with (with_reducible change wpList _ _ _ ({ dst := none, op := Op.store 23 _ _, type := _, pos := _, after := _, guard := _ } :: _) _ _; refine Hid.out ?_)
  show wpList _ _ _ _ _ _
  refine wpList_store_blk rfl 23 (.tmp 14) (.tmp 80) rfl W5.heap.size 0 23 _ (rpc st ty bo cl) rfl rfl (Blk.new W5 _ _) (by show 4 ≤ 4; exact Nat.le_refl _) size23 (rpc_one _ _ _ _) ?_
  intro W6 hx hg
  obtain ⟨b6, hb6⟩ : ∃ b, W5.heap.size = b := ⟨_, rfl⟩
  have H6 : Hid (KB w W6 _) := H5.out.push hx hg
  rw [hb6] at H6 ⊢
  clear hx hg H5 hb6
  go_wp2_with (with_reducible change wpList _ _ _ ({ dst := some 94, op := _, type := _, pos := _, after := _, guard := _ } :: _) _ _; refine Hid.out ?_)
  show wpList _ _ _ _ _ _
  refine wpList_load_want (by rfl) 23 (.tmp 14) rfl b6 0 rfl (rpc st ty bo cl) _ (Blk.range0 ((H6.out.2 (b6, rpc st ty bo cl) (by simp)).1)) Tryd.underlying23 rfl size23 ?_
  simp only [Act.put, List.setIfInBounds_toArray, List.set_cons_zero, List.set_cons_succ]
  go_wp2_with (with_reducible change wpList _ _ _ ({ dst := some 95, op := _, type := _, pos := _, after := _, guard := _ } :: _) _ _; refine Hid.out ?_)
  show wpList _ _ _ _ _ _
  refine wpList_load_want (by rfl) 23 (.tmp 3) rfl b 0 rfl (rpc st ty bo cl) _ (Blk.range0 ((H6.out.2 (b, rpc st ty bo cl) (by simp)).1)) Tryd.underlying23 rfl size23 ?_
  simp only [Act.put, List.setIfInBounds_toArray, List.set_cons_zero, List.set_cons_succ]
  have qv : z ≤ v.size := by rw [HV.out.2]; omega
  go_wp2_with fail
  obtain ⟨t2, ht2⟩ : ∃ t2, v.extract z v.size = t2 := ⟨_, rfl⟩
  have e1 : t2 = t := ba_ext (by rw [← ht2, ext_from, HV.out.1, ← HY.out.2.2.1, List.drop_left, HPT.out.2])
  rw [ht2, e1]
  clear ht2 e1 hv
  refine (read_is t (by have := HY.out; omega) W6 (HP.out.1.below H6.out.1) (HP.out.2.1.below H6.out.1) (HP.out.2.2.below H6.out.1)).mono ?_
  rintro e W7 ⟨hr, hbW⟩
  obtain rfl := rd_is (st := st') (ty := ty') (bo := bo') (cl := cl') hr (by rw [HPT.out.1]; exact HE2.out) (by rw [HPT.out.2, HPT.out.1]; have := aftB_app p'.1 []; rwa [List.append_nil] at this)
  have H7 : Hid (KB w W7 [(b6, rpc st ty bo cl), (b4, rpc 0 e0 e0 false), (b, rpc st ty bo cl), (c, rpc st' ty' bo' cl')]) := H6.out.below hbW
  rw [HPT.out.1, HY.out.2.2.2.1]
  clear hr hbW H6
  go_wp2_with (with_reducible change wpList _ _ _ ({ dst := none, op := Op.store 23 _ _, type := _, pos := _, after := _, guard := _ } :: _) _ _; refine Hid.out ?_)
  show wpList _ _ _ _ _ _
  refine wpList_store_blk rfl 23 (.tmp 17) (.tmp 111) rfl W7.heap.size 0 23 _ (rpc st' ty' bo' cl') rfl rfl (Blk.new W7 _ _) (by show 4 ≤ 4; exact Nat.le_refl _) size23 (rpc_one _ _ _ _) ?_
  intro W8 hx hg
  obtain ⟨b8, hb8⟩ : ∃ b, W7.heap.size = b := ⟨_, rfl⟩
  have H8 : Hid (KB w W8 _) := H7.out.push hx hg
  rw [hb8] at H8 ⊢
  clear hx hg H7 hb8
  have HLV := lives_is W8 (HP.out.1.below H8.out.1)
  go_wp2_with (with_reducible change wpList _ _ _ ({ dst := some 114, op := _, type := _, pos := _, after := _, guard := _ } :: _) _ _; refine Hid.out ?_)
  show wpList _ _ _ _ _ _
  refine wpList_load_row rfl 23 (.tmp 17) rfl b8 rfl 23 (rpc st' ty' bo' cl').toArray (0, 0) _ ((H8.out.2 (b8, rpc st' ty' bo' cl') (by simp)).1) Tryd.underlying23 rfl size23 ?_
  simp only [Act.put, List.setIfInBounds_toArray, List.set_cons_zero, List.set_cons_succ]
  go_wp2_with (with_reducible change wpList _ _ _ ({ dst := some 115, op := _, type := _, pos := _, after := _, guard := _ } :: _) _ _; refine Hid.out ?_)
  show wpList _ _ _ _ _ _
  refine wpList_load_row rfl 23 (.tmp 4) rfl c rfl 23 (rpc st' ty' bo' cl').toArray (0, 0) _ ((H8.out.2 (c, rpc st' ty' bo' cl') (by simp)).1) Tryd.underlying23 rfl size23 ?_
  simp only [Act.put, List.setIfInBounds_toArray, List.set_cons_zero, List.set_cons_succ]
  go_wp2_with fail
  refine HLV.mono ?_
  rintro e V ⟨rfl, hbV⟩
  have HV : Hid (Below w.heap.size w V) := below_tr H8.out.1 hbV
  clear HLV hbV
  go_wp2
  go_ret
  exact ⟨rfl, HV.out⟩
#print axioms cut_law
end Go.Proofs.YtkpepfeiimphpaaDoor.Oct
