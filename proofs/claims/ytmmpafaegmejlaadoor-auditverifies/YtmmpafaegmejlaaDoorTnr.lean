/-
  Layer 19 (audit): one entry says something else.
-/
import Derived.Test.YtmmpafaegmejlaaDoorChn
namespace Go.Proofs.YtmmpafaegmejlaaDoor.Oct
open Go.RowKit Sha
set_option linter.unusedSimpArgs false
set_option linter.unusedVariables false

theorem nxE_small {l : List En} {tick : Int} {who what : BA} (h : (nxE l tick who what).2 = 0) : who.size ≤ 16 ∧ what.size ≤ 512 := by
  unfold nxE at h
  split at h
  · cases h
  · split at h
    · cases h
    · omega
theorem okAt_prev {l : List En} {i : Nat} {e : En} (h : okAt l i) (he : l[i]? = some e) : e.prev = hdE (l.take i) ∧ e.who.size ≤ 16 ∧ e.what.size ≤ 512 := by
  have h1 := h e he
  have h2 : (nxE (l.take i) e.tick e.who e.what).2 = 0 := by rw [h1]
  refine ⟨?_, nxE_small h2⟩
  have h3 := (nxE_good h2).2.2
  rw [h1] at h3
  have := congrArg En.prev h3
  exact this
def En.say (e : En) (s : BA) : En := ⟨e.seq, e.tick, e.who, s, e.prev⟩
theorem wpList_store1 {ops : Array Oper} {rest : List Oper} {op : Oper} {a : Act} {w : World} {Q : Exit → Act → World → Prop} (hgd : op.guard = none) (ty : TypeId) (x y : Operand) (ho : op.op = .store ty x y)
    (b o : Nat) (t : TypeId) (L : List Value) (v : Value) (hx : a.eval x = .pointer (some ⟨b, o, none⟩)) (hy : a.eval y = v) (hb : Blk w b t L) (hl : o < L.length) (hi : (Tryd.prog.info? ty).map (·.size) = some 1) (h1 : v.cells = #[v]) (h2 : v.oneCell' = true)
    (h : ∀ w', Hid (Blk w' b t (L.take o ++ [v] ++ L.drop (o + 1))) → Hid (w.grownBy w' (some b)) → wpList Tryd.prog ops Q rest (a.put op.dst undef) w') : wpList Tryd.prog ops Q (op :: rest) a w := by
  refine wpList_step fun K hK => step_st1 (by unfold Region.wanted; rw [hgd]) ty x y ho b o v t L hx hy hb hl hi h1 h2 (hK _ _ ?_)
  have e := Blk.setCells [v] o w L hb hl
  exact h _ e.1 e.2
theorem hdE_at {l : List En} {k : Nat} {e : En} (h : l[k]? = some e) : hdE (l.take (k + 1)) = dgE e := by
  have hk := (List.getElem?_eq_some_iff.1 h).1
  unfold hdE lastE
  rw [if_neg (by intro h0; have := congrArg List.length h0; rw [List.length_take, List.length_nil] at this; omega)]
  rw [List.take_add_one, h]
  simp
/-- one that says something else is no chain of that head -/
theorem turned_not {l : List En} {k : Nat} {x : En} {s : BA} (hx : l[k]? = some x) (hok : ∀ i, i < l.length → okAt l i) (hd : dgE (x.say s) ≠ dgE x) : ¬ ((∀ i, i < (l.set k (x.say s)).length → okAt (l.set k (x.say s)) i) ∧ hdE (l.set k (x.say s)) = hdE l) := by
  rintro ⟨h1, h2⟩
  have hk := (List.getElem?_eq_some_iff.1 hx).1
  have hx' : (l.set k (x.say s))[k]? = some (x.say s) := by rw [List.getElem?_set_self hk]
  by_cases hl : k + 1 = l.length
  · have e1 := hdE_at hx
    have e2 := hdE_at hx'
    rw [List.take_of_length_le (by omega)] at e1
    rw [List.take_of_length_le (by rw [List.length_set]; omega)] at e2
    rw [e1, e2] at h2
    exact hd h2
  · obtain ⟨y, hy⟩ : ∃ y, l[k + 1]? = some y := ⟨_, List.getElem?_eq_getElem (by omega)⟩
    have hy' : (l.set k (x.say s))[k + 1]? = some y := by rw [List.getElem?_set_ne (by omega)]; exact hy
    have a := (okAt_prev (hok (k + 1) (by omega)) hy).1
    have b := (okAt_prev (h1 (k + 1) (by rw [List.length_set]; omega)) hy').1
    rw [hdE_at hx] at a
    rw [hdE_at hx'] at b
    exact hd (b.symm.trans a)
theorem set_row {W W' : World} {g k : Nat} {cur : List Value} {l : List En} {x : En} {s : BA} (hok : ∀ e ∈ l, e.ok) (hb : Blk W g 37 cur) (hr : ∀ i e, l[i]? = some e → W.rangeAt g (0 + i * 36) e.cells) (hx : l[k]? = some x) (hb' : Blk W' g 37 (cur.take (k * 36 + 3) ++ [.string s] ++ cur.drop (k * 36 + 3 + 1))) :
    ∀ i e, (l.set k (x.say s))[i]? = some e → W'.rangeAt g (0 + i * 36) e.cells := by
  have hget : ∀ i e, l[i]? = some e → ∀ j v, e.cells[j]? = some v → cur[i * 36 + j]? = some v := fun i e he j v hj => by
    have := hr i e he j v hj
    rw [cell_of_row W g _ _ 37 (0, 0) hb, Nat.zero_add] at this
    simpa using this
  have hlt : k * 36 + 3 < cur.length := (List.getElem?_eq_some_iff.1 (hget k x hx 3 (.string x.what) rfl)).1
  have hset : cur.take (k * 36 + 3) ++ [.string s] ++ cur.drop (k * 36 + 3 + 1) = cur.set (k * 36 + 3) (.string s) := by
    rw [List.set_eq_take_append_cons_drop, if_pos hlt]; simp
  rw [hset] at hb'
  intro i e he j v hj
  refine hb'.cell ?_
  rw [Nat.zero_add]
  rw [List.getElem?_set] at he
  by_cases hik : k = i
  · subst hik
    rw [if_pos rfl] at he
    split at he
    · cases he
      by_cases h3 : j = 3
      · subst h3
        have : v = .string s := (Option.some.inj hj).symm
        rw [this, List.getElem?_set_self hlt]
      · rw [List.getElem?_set_ne (by omega)]
        refine hget k x hx j v ?_
        rw [← hj]
        match j, h3 with
        | 0, _ => rfl
        | 1, _ => rfl
        | 2, _ => rfl
        | j + 4, _ => rfl
    · cases he
  · rw [if_neg hik] at he
    have hj36 : j < 36 := by
      have := (List.getElem?_eq_some_iff.1 hj).1
      rw [En.len (hok e (List.mem_of_getElem? he))] at this
      exact this
    rw [List.getElem?_set_ne (by omega)]
    exact hget i e he j v hj
#print axioms turned_not
#print axioms set_row
set_option maxRecDepth 100000 in
set_option maxHeartbeats 4000000 in
theorem tn17 {Q : Exit → Act → World → Prop} {x0 x1 x2 x3 x4 x5 x6 x7 x8 x9 x13 x14 x15 x16 x17 x18 x19 x20 x21 x22 x23 x24 x25 x26 x27 x28 x29 x30 x31 x32 x33 x34 x35 x36 x37 x38 x39 x40 x41 x42 x43 x44 x45 x46 x47 x48 x49 x50 x51 x52 x53 x54 x55 x56 x57 x58 x59 x60 x61 x62 x63 x64 x65 x66 x67 x68 x69 x70 x71 x72 x73 x74 x75 x76 x77 x78 x79 x80 x81 x82 x83 x84 x85 x86 x87 x88 x89 x90 x91 x92 x93 x94 x95 x96 x97 x98 x99 x100 x101 : Value} {ds : List Deferred} {A : World} {b1 o1 b2 o2 n c1 c2 i : Nat} {x y : En} {D1 D2 : List UInt8} {E : Bool}
    (HX : Hid (x.ok ∧ y.ok)) (HR : Hid (A.rangeAt b1 (o1 + i * 36) x.cells ∧ A.rangeAt b2 (o2 + i * 36) y.cells ∧ b1 < A.heap.size ∧ b2 < A.heap.size)) (HD1 : Hid (∀ V, Below A.heap.size A V → Calls Tryd.prog 20 #[.agg x.cells.toArray] V fun e V2 => e = .returned (.agg (U D1).toArray) ∧ Below V.heap.size V V2)) (HD2 : Hid (∀ V, Below A.heap.size A V → Calls Tryd.prog 20 #[.agg y.cells.toArray] V fun e V2 => e = .returned (.agg (U D2).toArray) ∧ Below V.heap.size V V2)) (HED : Hid (∀ W, (binOp .eql 35 (.agg (U D1).toArray) (.agg (U D2).toArray)).run Tryd.prog W = .ok (.bool E) W)) (q1 : (i : Int) < (n : Int)) (q2 : i < n)
    (hQ : ∀ V1, Below A.heap.size A V1 → Q .normal { tmps := #[x0, x1, x2, x3, x4, x5, x6, x7, x8, x9, .slice (some ⟨b2, o2, none⟩) n c2, iv (i : Int), .slice (some ⟨b1, o1, none⟩) n c1, x13, x14, x15, x16, x17, x18, x19, x20, x21, x22, x23, x24, x25, x26, x27, x28, x29, x30, x31, x32, x33, x34, x35, x36, x37, x38, x39, x40, x41, x42, x43, x44, x45, x46, x47, x48, x49, x50, x51, x52, x53, x54, x55, x56, x57, x58, x59, x60, x61, x62, x63, x64, x65, x66, x67, x68, x69, x70, x71, x72, x73, x74, x75, x76, x77, x78, x79, x80, x81, .slice (some ⟨b1, o1, none⟩) n c1, iv (i : Int), .pointer (some ⟨b1, o1 + i * 36, none⟩), .agg x.cells.toArray, .agg (U D1).toArray, .slice (some ⟨b2, o2, none⟩) n c2, iv (i : Int), .pointer (some ⟨b2, o2 + i * 36, none⟩), .agg y.cells.toArray, .agg (U D2).toArray, .bool E, x93, x94, x95, x96, x97, x98, x99, x100, x101], defers := ds } V1) :
    (Code.region 17 #[{ dst := some 82, op := Op.move (Operand.tmp 12), type := 27, pos := "law.go:168", after := #[], guard := none }, { dst := some 83, op := Op.move (Operand.tmp 11), type := 3, pos := "law.go:168", after := #[], guard := none }, { dst := some 84, op := Op.indexAddr 27 (Operand.tmp 82) (Operand.tmp 83), type := 0, pos := "law.go:168", after := #[{ on := 0, ground := Ground.data }, { on := 1, ground := Ground.data }], guard := none }, { dst := some 85, op := Op.load 37 (Operand.tmp 84), type := 37, pos := "law.go:168", after := #[{ on := 2, ground := Ground.data }], guard := none }, { dst := some 86, op := Op.call { callee := Callee.value (Operand.func 20), args := #[Operand.tmp 85], argTypes := #[37] }, type := 35, pos := "law.go:168", after := #[{ on := 3, ground := Ground.data }], guard := none }, { dst := some 87, op := Op.move (Operand.tmp 10), type := 27, pos := "law.go:168", after := #[], guard := none }, { dst := some 88, op := Op.move (Operand.tmp 11), type := 3, pos := "law.go:168", after := #[], guard := none }, { dst := some 89, op := Op.indexAddr 27 (Operand.tmp 87) (Operand.tmp 88), type := 0, pos := "law.go:168", after := #[{ on := 5, ground := Ground.data }, { on := 6, ground := Ground.data }], guard := none }, { dst := some 90, op := Op.load 37 (Operand.tmp 89), type := 37, pos := "law.go:168", after := #[{ on := 7, ground := Ground.data }], guard := none }, { dst := some 91, op := Op.call { callee := Callee.value (Operand.func 20), args := #[Operand.tmp 90], argTypes := #[37] }, type := 35, pos := "law.go:168", after := #[{ on := 8, ground := Ground.data }, { on := 4, ground := Ground.chain }], guard := none }, { dst := some 92, op := Op.binOp BinOp.eql 35 (Operand.tmp 86) (Operand.tmp 91) 35, type := 4, pos := "law.go:168", after := #[{ on := 4, ground := Ground.data }, { on := 9, ground := Ground.data }], guard := none }] true).wp Tryd.prog Q { tmps := #[x0, x1, x2, x3, x4, x5, x6, x7, x8, x9, .slice (some ⟨b2, o2, none⟩) n c2, iv (i : Int), .slice (some ⟨b1, o1, none⟩) n c1, x13, x14, x15, x16, x17, x18, x19, x20, x21, x22, x23, x24, x25, x26, x27, x28, x29, x30, x31, x32, x33, x34, x35, x36, x37, x38, x39, x40, x41, x42, x43, x44, x45, x46, x47, x48, x49, x50, x51, x52, x53, x54, x55, x56, x57, x58, x59, x60, x61, x62, x63, x64, x65, x66, x67, x68, x69, x70, x71, x72, x73, x74, x75, x76, x77, x78, x79, x80, x81, x82, x83, x84, x85, x86, x87, x88, x89, x90, x91, x92, x93, x94, x95, x96, x97, x98, x99, x100, x101], defers := ds } A := by
  refine Code.wp_mono (Q := fun x a' w' => match x with | .normal => Q .normal a' w' | _ => False) (by intro x a' w' h; cases x <;> first | exact h | exact h.elim) ?_
  refine wp_region_held (S := fun V => Below A.heap.size A V) (by kernel_rfl) ?_
  have hS0 : Hid (Below A.heap.size A A.drew) := below_drew0 A
  change wpAnyH Tryd.prog .any _ _ (fun V => Below A.heap.size A V) 11 (Array.replicate 11 false) _ A.drew
  obtain ⟨V0, hV0⟩ : ∃ V0, A.drew = V0 := ⟨_, rfl⟩
  rw [hV0]
  rw [hV0] at hS0
  clear hV0
  refine wpAnyH_take (i := 0) (oi := { dst := some 82, op := Op.move (Operand.tmp 12), type := 27, pos := "law.go:168", after := #[], guard := none }) (v := .slice (some ⟨b1, o1, none⟩) n c1) rfl (by kernel_rfl) (by kernel_rfl) (by kernel_rfl) (fun _ _ _ h => h.elim) (Or.inl ⟨by rfl, ?y1⟩) hS0.out ?_
  case y1 =>
    intro V hV
    go_simp
  simp only [Act.put, List.setIfInBounds_toArray, List.set_cons_zero, List.set_cons_succ]
  refine wpAnyH_take (i := 1) (oi := { dst := some 83, op := Op.move (Operand.tmp 11), type := 3, pos := "law.go:168", after := #[], guard := none }) (v := iv (i : Int)) rfl (by kernel_rfl) (by kernel_rfl) (by kernel_rfl) (fun _ _ _ h => h.elim) (Or.inl ⟨by rfl, ?y2⟩) hS0.out ?_
  case y2 =>
    intro V hV
    go_simp
  simp only [Act.put, List.setIfInBounds_toArray, List.set_cons_zero, List.set_cons_succ]
  refine wpAnyH_take (i := 2) (oi := { dst := some 84, op := Op.indexAddr 27 (Operand.tmp 82) (Operand.tmp 83), type := 0, pos := "law.go:168", after := #[{ on := 0, ground := Ground.data }, { on := 1, ground := Ground.data }], guard := none }) (v := .pointer (some ⟨b1, o1 + i * 36, none⟩)) rfl (by kernel_rfl) (by kernel_rfl) (by kernel_rfl) (fun _ _ _ h => h.elim) (Or.inl ⟨by rfl, ?y3⟩) hS0.out ?_
  case y3 =>
    intro V hV
    have hcmp := q1
    have hcmp2 := q2
    go_simp
  simp only [Act.put, List.setIfInBounds_toArray, List.set_cons_zero, List.set_cons_succ]
  refine wpAnyH_take (i := 3) (oi := { dst := some 85, op := Op.load 37 (Operand.tmp 84), type := 37, pos := "law.go:168", after := #[{ on := 2, ground := Ground.data }], guard := none }) (v := .agg x.cells.toArray) rfl (by kernel_rfl) (by kernel_rfl) (by kernel_rfl) (fun _ _ _ h => h.elim) (yieldsIf_load_mid (by rfl) _ _ rfl _ _ rfl (x.cells) _ (fun V hV => rangeAt_same (HR.out.1) ((show Below A.heap.size A V from hV).block _ (HR.out.2.2.1))) Tryd.underlying37 rfl (info37 HX.out.1)) hS0.out ?_
  simp only [Act.put, List.setIfInBounds_toArray, List.set_cons_zero, List.set_cons_succ]
  refine wpAnyH_take (i := 5) (oi := { dst := some 87, op := Op.move (Operand.tmp 10), type := 27, pos := "law.go:168", after := #[], guard := none }) (v := .slice (some ⟨b2, o2, none⟩) n c2) rfl (by kernel_rfl) (by kernel_rfl) (by kernel_rfl) (fun _ _ _ h => h.elim) (Or.inl ⟨by rfl, ?y4⟩) hS0.out ?_
  case y4 =>
    intro V hV
    go_simp
  simp only [Act.put, List.setIfInBounds_toArray, List.set_cons_zero, List.set_cons_succ]
  refine wpAnyH_take (i := 6) (oi := { dst := some 88, op := Op.move (Operand.tmp 11), type := 3, pos := "law.go:168", after := #[], guard := none }) (v := iv (i : Int)) rfl (by kernel_rfl) (by kernel_rfl) (by kernel_rfl) (fun _ _ _ h => h.elim) (Or.inl ⟨by rfl, ?y5⟩) hS0.out ?_
  case y5 =>
    intro V hV
    go_simp
  simp only [Act.put, List.setIfInBounds_toArray, List.set_cons_zero, List.set_cons_succ]
  refine wpAnyH_take (i := 7) (oi := { dst := some 89, op := Op.indexAddr 27 (Operand.tmp 87) (Operand.tmp 88), type := 0, pos := "law.go:168", after := #[{ on := 5, ground := Ground.data }, { on := 6, ground := Ground.data }], guard := none }) (v := .pointer (some ⟨b2, o2 + i * 36, none⟩)) rfl (by kernel_rfl) (by kernel_rfl) (by kernel_rfl) (fun _ _ _ h => h.elim) (Or.inl ⟨by rfl, ?y6⟩) hS0.out ?_
  case y6 =>
    intro V hV
    have hcmp := q1
    have hcmp2 := q2
    go_simp
  simp only [Act.put, List.setIfInBounds_toArray, List.set_cons_zero, List.set_cons_succ]
  refine wpAnyH_take (i := 8) (oi := { dst := some 90, op := Op.load 37 (Operand.tmp 89), type := 37, pos := "law.go:168", after := #[{ on := 7, ground := Ground.data }], guard := none }) (v := .agg y.cells.toArray) rfl (by kernel_rfl) (by kernel_rfl) (by kernel_rfl) (fun _ _ _ h => h.elim) (yieldsIf_load_mid (by rfl) _ _ rfl _ _ rfl (y.cells) _ (fun V hV => rangeAt_same (HR.out.2.1) ((show Below A.heap.size A V from hV).block _ (HR.out.2.2.2))) Tryd.underlying37 rfl (info37 HX.out.2)) hS0.out ?_
  simp only [Act.put, List.setIfInBounds_toArray, List.set_cons_zero, List.set_cons_succ]
  refine wpAnyH_ready (rs := [4]) (by kernel_rfl) (by simp) (AllReadyH.cons (i := 4) (o := { dst := some 86, op := Op.call { callee := Callee.value (Operand.func 20), args := #[Operand.tmp 85], argTypes := #[37] }, type := 35, pos := "law.go:168", after := #[{ on := 3, ground := Ground.data }], guard := none }) rfl ?_ AllReadyH.nil)
  · intro K1 hK1
    rw [if_pos (by rfl)]
    have HC1 := HD1.out V0 hS0.out
    go_wp2_with fail
    refine HC1.mono ?_
    rintro e V1 ⟨rfl, hb1⟩
    dsimp only
    clear HC1
    have hS1 : Hid (Below A.heap.size A V1) := hS0.out.trans (hb1.mono hS0.out.size)
    clear hb1
    refine hK1.out _ _ hS1.out ?_
    clear hK1
    intro _
    try simp only [Act.put, List.setIfInBounds_toArray, List.set_cons_zero, List.set_cons_succ]
    refine wpAnyH_ready (rs := [9]) (by kernel_rfl) (by simp) (AllReadyH.cons (i := 9) (o := { dst := some 91, op := Op.call { callee := Callee.value (Operand.func 20), args := #[Operand.tmp 90], argTypes := #[37] }, type := 35, pos := "law.go:168", after := #[{ on := 8, ground := Ground.data }, { on := 4, ground := Ground.chain }], guard := none }) rfl ?_ AllReadyH.nil)
    · intro K1 hK1
      rw [if_pos (by rfl)]
      have HC2 := HD2.out V1 hS1.out
      go_wp2_with fail
      refine HC2.mono ?_
      rintro e V2 ⟨rfl, hb2⟩
      dsimp only
      clear HC2
      have hS2 : Hid (Below A.heap.size A V2) := hS1.out.trans (hb2.mono hS1.out.size)
      clear hb2
      refine hK1.out _ _ hS2.out ?_
      clear hK1
      intro _
      try simp only [Act.put, List.setIfInBounds_toArray, List.set_cons_zero, List.set_cons_succ]
      refine wpAnyH_take (i := 10) (oi := { dst := some 92, op := Op.binOp BinOp.eql 35 (Operand.tmp 86) (Operand.tmp 91) 35, type := 4, pos := "law.go:168", after := #[{ on := 4, ground := Ground.data }, { on := 9, ground := Ground.data }], guard := none }) (v := .bool E) rfl (by kernel_rfl) (by kernel_rfl) (by kernel_rfl) (fun _ _ _ h => h.elim) (Or.inl ⟨by rfl, ?y7⟩) hS2.out ?_
      case y7 =>
        intro V hV
        exact yl_eq35 V _ _ _ _ _ rfl rfl rfl HED.out
      simp only [Act.put, List.setIfInBounds_toArray, List.set_cons_zero, List.set_cons_succ]
      refine wpAnyH_done (by kernel_rfl) ?_ _
      exact hQ V2 hS2.out
#print axioms tn17
end Go.Proofs.YtmmpafaegmejlaaDoor.Oct
