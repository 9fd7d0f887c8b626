/-
  Layer 19 (audit): the law AuditBound: plain facts, and its drawn regions.
  Layer 19 (audit): the law AuditBound.
-/
import Derived.Test.YtmmpafaegmejlaaDoorPkG
import Derived.Test.YtmmpafaegmejlaaDoorPkD
/- Layer 19 (audit): the law AuditBound: plain facts, and its drawn regions. -/
namespace Go.Proofs.YtmmpafaegmejlaaDoor.Oct
open Go.RowKit Sha
set_option linter.unusedSimpArgs false
set_option linter.unusedVariables false

theorem zero37z (W : World) : (zeroValue 37).run Tryd.prog W = .ok (.agg zE.cells.toArray) W := by kernel_rfl
theorem wpList_load_want {ops : Array Oper} {rest : List Oper} {o : Oper} {a : Act} {w : World} {Q : Exit → Act → World → Prop} (hw : Region.wanted o (yielded ops a.tmps) = true) (ty : TypeId) (x : Operand) (ho : o.op = .load ty x)
    (b p : Nat) (hx : a.eval x = .pointer (some ⟨b, p, none⟩)) (cs : List Value) (d : TypeDesc) (hc : w.rangeAt b p cs)
    (hu : Tryd.prog.underlying ty = some d) (hd : d.isRow = true) (hi : (Tryd.prog.info? ty).map (·.size) = some cs.length)
    (h : wpList Tryd.prog ops Q rest (a.put o.dst (.agg cs.toArray)) w) : wpList Tryd.prog ops Q (o :: rest) a w :=
  Go.BigFrame.wpList_want hw fun _ hK => wp_load_mid ty x ho b p hx cs d hc hu hd hi (hK _ _ h)
theorem step_al {ops : Array Oper} {o : Oper} {a : Act} {w : World} {K : Act → World → Prop} {Q : Exit → Act → World → Prop} {E : Prop} (hw : Region.wanted o (yielded ops a.tmps) = true) (t : TypeId) (hop : o.op = .alloc t) (Z : List Value) (hz : ∀ W, (zeroValue t).run Tryd.prog W = .ok (.agg Z.toArray) W)
    (hk : K (a.put o.dst (.pointer (some ⟨w.heap.size, 0, none⟩))) (w.alloc (.cells Z.toArray t))) : if Region.wanted o (yielded ops a.tmps) = true then Oper.wp Tryd.prog o a w K Q else E := by
  rw [if_pos hw]
  unfold Oper.wp execOp
  simp [hop, Instr.alloc, hz, Value.cells, newRow, Result.andThen]
  exact hk
theorem okAt_seq {l : List En} {i : Nat} {e : En} (h : okAt l i) (he : l[i]? = some e) : e.seq = (i : Int) + 1 := by
  have h1 := h e he
  have h2 : (nxE (l.take i) e.tick e.who e.what).2 = 0 := by rw [h1]
  have h3 := (nxE_good h2).2.2
  rw [h1] at h3
  have := congrArg En.seq h3
  have hi := (List.getElem?_eq_some_iff.1 he).1
  rw [this]
  show ((l.take i).length : Int) + 1 = _
  rw [List.length_take, Nat.min_eq_left (by omega)]
theorem bound_dg {a b : List En} (ha : ∀ i, i < a.length → okAt a i) (hb : ∀ i, i < b.length → okAt b i) (hd : hdE a = hdE b) {i : Nat} (h1 : 1 ≤ i) (hia : i ≤ a.length) (hib : i ≤ b.length)
    (hs : ∀ j, 1 ≤ j → j < i → a[a.length - j]? = b[b.length - j]?) {x y : En} (hx : a[a.length - i]? = some x) (hy : b[b.length - i]? = some y) : dgE x = dgE y := by
  have ex := hdE_at hx
  have ey := hdE_at hy
  by_cases hi : i = 1
  · subst hi
    rw [List.take_of_length_le (by omega)] at ex ey
    rw [← ex, ← ey, hd]
  · have hz := hs (i - 1) (by omega) (by omega)
    have e1 : a.length - (i - 1) = a.length - i + 1 := by omega
    have e2 : b.length - (i - 1) = b.length - i + 1 := by omega
    rw [e1, e2] at hz
    obtain ⟨z, hza⟩ : ∃ z, a[a.length - i + 1]? = some z := ⟨_, List.getElem?_eq_getElem (by omega)⟩
    rw [hza] at hz
    have p1 := (okAt_prev (ha _ (by omega)) hza).1
    have p2 := (okAt_prev (hb _ (by omega)) hz.symm).1
    rw [← ex, ← ey, ← p1, ← p2]
theorem bound_half {a b : List En} (ha : ∀ i, i < a.length → okAt a i) (hb : ∀ i, i < b.length → okAt b i) (hp : 0 < a.length) (hle : a.length ≤ b.length)
    (hs : ∀ j, 1 ≤ j → j < a.length + 1 → a[a.length - j]? = b[b.length - j]?) : a = b := by
  obtain ⟨x, hx⟩ : ∃ x, a[0]? = some x := ⟨_, List.getElem?_eq_getElem hp⟩
  have h0 := hs a.length (by omega) (by omega)
  rw [Nat.sub_self, hx] at h0
  have s1 := okAt_seq (ha 0 hp) hx
  have s2 := okAt_seq (hb _ (by omega)) h0.symm
  have hl : a.length = b.length := by omega
  refine List.ext_getElem? fun k => ?_
  by_cases hk : k < a.length
  · have := hs (a.length - k) (by omega) (by omega)
    rw [← hl, show a.length - (a.length - k) = k by omega] at this
    exact this
  · rw [List.getElem?_eq_none (by omega), List.getElem?_eq_none (by omega)]
theorem bound_end {a b : List En} (ha : ∀ i, i < a.length → okAt a i) (hb : ∀ i, i < b.length → okAt b i) (hne : a ≠ b) {i : Nat}
    (hs : ∀ j, 1 ≤ j → j < i → a[a.length - j]? = b[b.length - j]?) (hi : i = a.length + 1 ∨ i = b.length + 1) (hle : i ≤ a.length + 1 ∧ i ≤ b.length + 1) : a.length = 0 ∨ b.length = 0 := by
  by_cases h0 : a.length = 0
  · exact .inl h0
  by_cases h1 : b.length = 0
  · exact .inr h1
  exfalso
  rcases hi with rfl | rfl
  · exact hne (bound_half ha hb (by omega) (by omega) hs)
  · exact hne (bound_half hb ha (by omega) (by omega) fun j h1 h2 => (hs j h1 h2).symm).symm
set_option maxRecDepth 100000 in
set_option maxHeartbeats 4000000 in
theorem bd13a {Q : Exit → Act → World → Prop} {x2 x3 x4 x5 x6 x7 x9 x10 x11 x12 x13 x14 x15 x16 x17 x18 x19 x20 x21 x22 x23 x24 x25 x26 x27 x28 x29 x30 x31 x32 x33 x34 x35 x36 x37 x38 x39 x40 x41 x42 x43 x44 x45 x46 x47 x48 x49 x50 x51 x52 x53 x54 x55 x56 x57 x58 x59 x60 x61 x62 x63 x64 x65 x66 x67 x68 x69 x70 x71 x72 x73 x74 x75 x76 x77 x78 x79 x80 x81 x82 x83 x84 x85 x86 x87 x88 x89 x90 x91 x92 x93 x94 x95 x96 x97 x98 x99 x100 x101 x102 x103 x104 x105 x106 x107 x108 x109 x110 x111 x112 x113 x114 x115 x116 x117 x118 x119 x120 x121 x122 x123 : Value} {ds : List Deferred} {A : World} {a b : Option Addr} {n cap m cap2 h : Nat} {k1 k2 : Int}
    (H1 : Hid (∀ V, Below A.heap.size A V → Calls Tryd.prog 23 #[.slice a n cap] V fun e V2 => e = .returned (iv k1) ∧ Below V.heap.size V V2)) (H10 : Hid (∀ V, Below A.heap.size A V → Calls Tryd.prog 10 #[] V fun e V2 => e = .returned (.bool true) ∧ Below V.heap.size V V2)) (q1 : 0 ≤ k1)
    (hQ : ∀ V1, Below A.heap.size A V1 → Q .normal { tmps := #[.slice a n cap, .slice b m cap2, x2, x3, .bool true, x5, x6, x7, .pointer (some ⟨h, 0, none⟩), x9, x10, x11, x12, x13, x14, x15, x16, x17, x18, x19, x20, x21, x22, x23, x24, x25, x26, x27, x28, x29, x30, x31, x32, x33, x34, x35, x36, x37, x38, x39, x40, x41, x42, x43, x44, x45, x46, x47, x48, x49, x50, x51, x52, x53, x54, .slice a n cap, iv k1, .bool true, .bool true, undef, undef, undef, .bool true, .bool true, undef, undef, undef, undef, .bool true, .bool true, .bool true, .bool true, x72, x73, x74, x75, x76, x77, x78, x79, x80, x81, x82, x83, x84, x85, x86, x87, x88, x89, x90, x91, x92, x93, x94, x95, x96, x97, x98, x99, x100, x101, x102, x103, x104, x105, x106, x107, x108, x109, x110, x111, x112, x113, x114, x115, x116, x117, x118, x119, x120, x121, x122, x123], defers := ds } V1) :
    (Code.region 13 #[{ dst := some 55, op := Op.move (Operand.tmp 0), type := 27, pos := "law.go:134", after := #[], guard := none }, { dst := some 56, op := Op.call { callee := Callee.value (Operand.func 23), args := #[Operand.tmp 55], argTypes := #[27] }, type := 3, pos := "law.go:134", after := #[{ on := 0, ground := Ground.data }], guard := none }, { dst := some 57, op := Op.binOp BinOp.geq 3 (Operand.tmp 56) (Operand.const (Value.int IntKind.i64 0)) 3, type := 4, pos := "law.go:134", after := #[{ on := 1, ground := Ground.data }], guard := none }, { dst := some 58, op := Op.move (Operand.tmp 57), type := 4, pos := "law.go:134", after := #[{ on := 2, ground := Ground.data }, { on := 1, ground := Ground.chain }], guard := none }, { dst := some 59, op := Op.move (Operand.tmp 1), type := 27, pos := "law.go:134", after := #[{ on := 3, ground := Ground.guard }], guard := some (3, false) }, { dst := some 60, op := Op.call { callee := Callee.value (Operand.func 23), args := #[Operand.tmp 59], argTypes := #[27] }, type := 3, pos := "law.go:134", after := #[{ on := 4, ground := Ground.data }, { on := 3, ground := Ground.chain }, { on := 3, ground := Ground.guard }], guard := some (3, false) }, { dst := some 61, op := Op.binOp BinOp.geq 3 (Operand.tmp 60) (Operand.const (Value.int IntKind.i64 0)) 3, type := 4, pos := "law.go:134", after := #[{ on := 5, ground := Ground.data }, { on := 3, ground := Ground.guard }], guard := some (3, false) }, { dst := some 62, op := Op.pick (Operand.tmp 58) (Operand.const (Value.bool true)) (Operand.tmp 61), type := 4, pos := "law.go:134", after := #[{ on := 3, ground := Ground.data }, { on := 6, ground := Ground.data }], guard := none }, { dst := some 63, op := Op.move (Operand.tmp 62), type := 4, pos := "law.go:134", after := #[{ on := 7, ground := Ground.data }, { on := 5, ground := Ground.chain }], guard := none }, { dst := some 64, op := Op.load 35 (Operand.tmp 8), type := 35, pos := "law.go:134", after := #[{ on := 8, ground := Ground.guard }], guard := some (8, false) }, { dst := some 65, op := Op.move (Operand.tmp 1), type := 27, pos := "law.go:134", after := #[{ on := 8, ground := Ground.guard }], guard := some (8, false) }, { dst := some 66, op := Op.call { callee := Callee.value (Operand.func 17), args := #[Operand.tmp 65], argTypes := #[27] }, type := 35, pos := "law.go:134", after := #[{ on := 10, ground := Ground.data }, { on := 8, ground := Ground.chain }, { on := 8, ground := Ground.guard }], guard := some (8, false) }, { dst := some 67, op := Op.binOp BinOp.neq 35 (Operand.tmp 64) (Operand.tmp 66) 35, type := 4, pos := "law.go:134", after := #[{ on := 9, ground := Ground.data }, { on := 11, ground := Ground.data }, { on := 8, ground := Ground.guard }], guard := some (8, false) }, { dst := some 68, op := Op.pick (Operand.tmp 63) (Operand.const (Value.bool true)) (Operand.tmp 67), type := 4, pos := "law.go:134", after := #[{ on := 8, ground := Ground.data }, { on := 12, ground := Ground.data }], guard := none }, { dst := some 69, op := Op.move (Operand.tmp 68), type := 4, pos := "law.go:134", after := #[{ on := 13, ground := Ground.data }, { on := 11, ground := Ground.chain }], guard := none }, { dst := some 70, op := Op.call { callee := Callee.value (Operand.func 10), args := #[], argTypes := #[] }, type := 4, pos := "law.go:134", after := #[{ on := 14, ground := Ground.chain }, { on := 14, ground := Ground.guard }], guard := some (14, true) }, { dst := some 71, op := Op.pick (Operand.tmp 69) (Operand.tmp 70) (Operand.const (Value.bool false)), type := 4, pos := "law.go:134", after := #[{ on := 14, ground := Ground.data }, { on := 15, ground := Ground.data }], guard := none }, { dst := some 4, op := Op.assign (Operand.tmp 71), type := 4, pos := "law.go:134", after := #[{ on := 16, ground := Ground.data }, { on := 15, ground := Ground.chain }, { on := 0, ground := Ground.phase }, { on := 1, ground := Ground.phase }, { on := 2, ground := Ground.phase }, { on := 3, ground := Ground.phase }, { on := 4, ground := Ground.phase }, { on := 5, ground := Ground.phase }, { on := 6, ground := Ground.phase }, { on := 7, ground := Ground.phase }, { on := 8, ground := Ground.phase }, { on := 9, ground := Ground.phase }, { on := 10, ground := Ground.phase }, { on := 11, ground := Ground.phase }, { on := 12, ground := Ground.phase }, { on := 13, ground := Ground.phase }, { on := 14, ground := Ground.phase }, { on := 15, ground := Ground.phase }, { on := 16, ground := Ground.phase }], guard := none }] true).wp Tryd.prog Q { tmps := #[.slice a n cap, .slice b m cap2, x2, x3, x4, x5, x6, x7, .pointer (some ⟨h, 0, none⟩), x9, x10, x11, x12, x13, x14, x15, x16, x17, x18, x19, x20, x21, x22, x23, x24, x25, x26, x27, x28, x29, x30, x31, x32, x33, x34, x35, x36, x37, x38, x39, x40, x41, x42, x43, x44, x45, x46, x47, x48, x49, x50, x51, x52, x53, x54, x55, x56, x57, x58, x59, x60, x61, x62, x63, x64, x65, x66, x67, x68, x69, x70, x71, x72, x73, x74, x75, x76, x77, x78, x79, x80, x81, x82, x83, x84, x85, x86, x87, x88, x89, x90, x91, x92, x93, x94, x95, x96, x97, x98, x99, x100, x101, x102, x103, x104, x105, x106, x107, x108, x109, x110, x111, x112, x113, x114, x115, x116, x117, x118, x119, x120, x121, x122, x123], defers := ds } A := by
  refine Code.wp_mono (Q := fun x a' w' => match x with | .normal => Q .normal a' w' | _ => False) (by intro x a' w' h; cases x <;> first | exact h | exact h.elim) ?_
  refine wp_region_held (S := fun V => Below A.heap.size A V) (by kernel_rfl) ?_
  have hS0 : Hid (Below A.heap.size A A.drew) := below_drew0 A
  change wpAnyH Tryd.prog .any _ _ (fun V => Below A.heap.size A V) 18 (Array.replicate 18 false) _ A.drew
  obtain ⟨V0, hV0⟩ : ∃ V0, A.drew = V0 := ⟨_, rfl⟩
  rw [hV0]
  rw [hV0] at hS0
  clear hV0
  refine wpAnyH_take (i := 0) (oi := { dst := some 55, op := Op.move (Operand.tmp 0), type := 27, pos := "law.go:134", after := #[], guard := none }) (v := .slice a n cap) rfl (by kernel_rfl) (by kernel_rfl) (by kernel_rfl) (fun _ _ _ h => h.elim) (Or.inl ⟨by rfl, ?y1⟩) hS0.out ?_
  case y1 =>
    intro V hV
    go_simp
  simp only [Act.put, List.setIfInBounds_toArray, List.set_cons_zero, List.set_cons_succ]
  refine wpAnyH_ready (rs := [1]) (by kernel_rfl) (by simp) (AllReadyH.cons (i := 1) (o := { dst := some 56, op := Op.call { callee := Callee.value (Operand.func 23), args := #[Operand.tmp 55], argTypes := #[27] }, type := 3, pos := "law.go:134", after := #[{ on := 0, ground := Ground.data }], guard := none }) rfl ?_ AllReadyH.nil)
  · intro K1 hK1
    rw [if_pos (by rfl)]
    have HC1 := H1.out V0 hS0.out
    go_wp2_with fail
    refine HC1.mono ?_
    rintro e V1 ⟨rfl, hb1⟩
    dsimp only
    clear HC1
    have hS1 : Hid (Below A.heap.size A V1) := hS0.out.trans (hb1.mono hS0.out.size)
    clear hb1
    refine hK1.out _ _ hS1.out ?_
    clear hK1
    intro _
    try simp only [Act.put, List.setIfInBounds_toArray, List.set_cons_zero, List.set_cons_succ]
    refine wpAnyH_take (i := 2) (oi := { dst := some 57, op := Op.binOp BinOp.geq 3 (Operand.tmp 56) (Operand.const (Value.int IntKind.i64 0)) 3, type := 4, pos := "law.go:134", after := #[{ on := 1, ground := Ground.data }], guard := none }) (v := .bool true) rfl (by kernel_rfl) (by kernel_rfl) (by kernel_rfl) (fun _ _ _ h => h.elim) (Or.inl ⟨by rfl, ?y2⟩) hS1.out ?_
    case y2 =>
      intro V hV
      have hcmp := q1
      go_simp
    simp only [Act.put, List.setIfInBounds_toArray, List.set_cons_zero, List.set_cons_succ]
    refine wpAnyH_take (i := 3) (oi := { dst := some 58, op := Op.move (Operand.tmp 57), type := 4, pos := "law.go:134", after := #[{ on := 2, ground := Ground.data }, { on := 1, ground := Ground.chain }], guard := none }) (v := .bool true) rfl (by kernel_rfl) (by kernel_rfl) (by kernel_rfl) (fun _ _ _ h => h.elim) (Or.inl ⟨by rfl, ?y3⟩) hS1.out ?_
    case y3 =>
      intro V hV
      go_simp
    simp only [Act.put, List.setIfInBounds_toArray, List.set_cons_zero, List.set_cons_succ]
    refine wpAnyH_take (i := 4) (oi := { dst := some 59, op := Op.move (Operand.tmp 1), type := 27, pos := "law.go:134", after := #[{ on := 3, ground := Ground.guard }], guard := some (3, false) }) (v := undef) rfl (by kernel_rfl) (by kernel_rfl) (by kernel_rfl) (fun _ _ _ h => h.elim) (Or.inr ⟨by rfl, rfl⟩) hS1.out ?_
    simp only [Act.put, List.setIfInBounds_toArray, List.set_cons_zero, List.set_cons_succ]
    refine wpAnyH_take (i := 5) (oi := { dst := some 60, op := Op.call { callee := Callee.value (Operand.func 23), args := #[Operand.tmp 59], argTypes := #[27] }, type := 3, pos := "law.go:134", after := #[{ on := 4, ground := Ground.data }, { on := 3, ground := Ground.chain }, { on := 3, ground := Ground.guard }], guard := some (3, false) }) (v := undef) rfl (by kernel_rfl) (by kernel_rfl) (by kernel_rfl) (fun _ _ _ h => h.elim) (Or.inr ⟨by rfl, rfl⟩) hS1.out ?_
    simp only [Act.put, List.setIfInBounds_toArray, List.set_cons_zero, List.set_cons_succ]
    refine wpAnyH_take (i := 6) (oi := { dst := some 61, op := Op.binOp BinOp.geq 3 (Operand.tmp 60) (Operand.const (Value.int IntKind.i64 0)) 3, type := 4, pos := "law.go:134", after := #[{ on := 5, ground := Ground.data }, { on := 3, ground := Ground.guard }], guard := some (3, false) }) (v := undef) rfl (by kernel_rfl) (by kernel_rfl) (by kernel_rfl) (fun _ _ _ h => h.elim) (Or.inr ⟨by rfl, rfl⟩) hS1.out ?_
    simp only [Act.put, List.setIfInBounds_toArray, List.set_cons_zero, List.set_cons_succ]
    refine wpAnyH_take (i := 7) (oi := { dst := some 62, op := Op.pick (Operand.tmp 58) (Operand.const (Value.bool true)) (Operand.tmp 61), type := 4, pos := "law.go:134", after := #[{ on := 3, ground := Ground.data }, { on := 6, ground := Ground.data }], guard := none }) (v := .bool true) rfl (by kernel_rfl) (by kernel_rfl) (by kernel_rfl) (fun _ _ _ h => h.elim) (Or.inl ⟨by rfl, ?y4⟩) hS1.out ?_
    case y4 =>
      intro V hV
      go_simp
    simp only [Act.put, List.setIfInBounds_toArray, List.set_cons_zero, List.set_cons_succ]
    refine wpAnyH_take (i := 8) (oi := { dst := some 63, op := Op.move (Operand.tmp 62), type := 4, pos := "law.go:134", after := #[{ on := 7, ground := Ground.data }, { on := 5, ground := Ground.chain }], guard := none }) (v := .bool true) rfl (by kernel_rfl) (by kernel_rfl) (by kernel_rfl) (fun _ _ _ h => h.elim) (Or.inl ⟨by rfl, ?y5⟩) hS1.out ?_
    case y5 =>
      intro V hV
      go_simp
    simp only [Act.put, List.setIfInBounds_toArray, List.set_cons_zero, List.set_cons_succ]
    refine wpAnyH_take (i := 9) (oi := { dst := some 64, op := Op.load 35 (Operand.tmp 8), type := 35, pos := "law.go:134", after := #[{ on := 8, ground := Ground.guard }], guard := some (8, false) }) (v := undef) rfl (by kernel_rfl) (by kernel_rfl) (by kernel_rfl) (fun _ _ _ h => h.elim) (Or.inr ⟨by rfl, rfl⟩) hS1.out ?_
    simp only [Act.put, List.setIfInBounds_toArray, List.set_cons_zero, List.set_cons_succ]
    refine wpAnyH_take (i := 10) (oi := { dst := some 65, op := Op.move (Operand.tmp 1), type := 27, pos := "law.go:134", after := #[{ on := 8, ground := Ground.guard }], guard := some (8, false) }) (v := undef) rfl (by kernel_rfl) (by kernel_rfl) (by kernel_rfl) (fun _ _ _ h => h.elim) (Or.inr ⟨by rfl, rfl⟩) hS1.out ?_
    simp only [Act.put, List.setIfInBounds_toArray, List.set_cons_zero, List.set_cons_succ]
    refine wpAnyH_take (i := 11) (oi := { dst := some 66, op := Op.call { callee := Callee.value (Operand.func 17), args := #[Operand.tmp 65], argTypes := #[27] }, type := 35, pos := "law.go:134", after := #[{ on := 10, ground := Ground.data }, { on := 8, ground := Ground.chain }, { on := 8, ground := Ground.guard }], guard := some (8, false) }) (v := undef) rfl (by kernel_rfl) (by kernel_rfl) (by kernel_rfl) (fun _ _ _ h => h.elim) (Or.inr ⟨by rfl, rfl⟩) hS1.out ?_
    simp only [Act.put, List.setIfInBounds_toArray, List.set_cons_zero, List.set_cons_succ]
    refine wpAnyH_take (i := 12) (oi := { dst := some 67, op := Op.binOp BinOp.neq 35 (Operand.tmp 64) (Operand.tmp 66) 35, type := 4, pos := "law.go:134", after := #[{ on := 9, ground := Ground.data }, { on := 11, ground := Ground.data }, { on := 8, ground := Ground.guard }], guard := some (8, false) }) (v := undef) rfl (by kernel_rfl) (by kernel_rfl) (by kernel_rfl) (fun _ _ _ h => h.elim) (Or.inr ⟨by rfl, rfl⟩) hS1.out ?_
    simp only [Act.put, List.setIfInBounds_toArray, List.set_cons_zero, List.set_cons_succ]
    refine wpAnyH_take (i := 13) (oi := { dst := some 68, op := Op.pick (Operand.tmp 63) (Operand.const (Value.bool true)) (Operand.tmp 67), type := 4, pos := "law.go:134", after := #[{ on := 8, ground := Ground.data }, { on := 12, ground := Ground.data }], guard := none }) (v := .bool true) rfl (by kernel_rfl) (by kernel_rfl) (by kernel_rfl) (fun _ _ _ h => h.elim) (Or.inl ⟨by rfl, ?y6⟩) hS1.out ?_
    case y6 =>
      intro V hV
      go_simp
    simp only [Act.put, List.setIfInBounds_toArray, List.set_cons_zero, List.set_cons_succ]
    refine wpAnyH_take (i := 14) (oi := { dst := some 69, op := Op.move (Operand.tmp 68), type := 4, pos := "law.go:134", after := #[{ on := 13, ground := Ground.data }, { on := 11, ground := Ground.chain }], guard := none }) (v := .bool true) rfl (by kernel_rfl) (by kernel_rfl) (by kernel_rfl) (fun _ _ _ h => h.elim) (Or.inl ⟨by rfl, ?y7⟩) hS1.out ?_
    case y7 =>
      intro V hV
      go_simp
    simp only [Act.put, List.setIfInBounds_toArray, List.set_cons_zero, List.set_cons_succ]
    refine wpAnyH_ready (rs := [15]) (by kernel_rfl) (by simp) (AllReadyH.cons (i := 15) (o := { dst := some 70, op := Op.call { callee := Callee.value (Operand.func 10), args := #[], argTypes := #[] }, type := 4, pos := "law.go:134", after := #[{ on := 14, ground := Ground.chain }, { on := 14, ground := Ground.guard }], guard := some (14, true) }) rfl ?_ AllReadyH.nil)
    · intro K1 hK1
      rw [if_pos (by rfl)]
      have HC2 := H10.out V1 hS1.out
      go_wp2_with fail
      refine HC2.mono ?_
      rintro e V2 ⟨rfl, hb2⟩
      dsimp only
      clear HC2
      have hS2 : Hid (Below A.heap.size A V2) := hS1.out.trans (hb2.mono hS1.out.size)
      clear hb2
      refine hK1.out _ _ hS2.out ?_
      clear hK1
      intro _
      try simp only [Act.put, List.setIfInBounds_toArray, List.set_cons_zero, List.set_cons_succ]
      refine wpAnyH_take (i := 16) (oi := { dst := some 71, op := Op.pick (Operand.tmp 69) (Operand.tmp 70) (Operand.const (Value.bool false)), type := 4, pos := "law.go:134", after := #[{ on := 14, ground := Ground.data }, { on := 15, ground := Ground.data }], guard := none }) (v := .bool true) rfl (by kernel_rfl) (by kernel_rfl) (by kernel_rfl) (fun _ _ _ h => h.elim) (Or.inl ⟨by rfl, ?y8⟩) hS2.out ?_
      case y8 =>
        intro V hV
        go_simp
      simp only [Act.put, List.setIfInBounds_toArray, List.set_cons_zero, List.set_cons_succ]
      refine wpAnyH_take (i := 17) (oi := { dst := some 4, op := Op.assign (Operand.tmp 71), type := 4, pos := "law.go:134", after := #[{ on := 16, ground := Ground.data }, { on := 15, ground := Ground.chain }, { on := 0, ground := Ground.phase }, { on := 1, ground := Ground.phase }, { on := 2, ground := Ground.phase }, { on := 3, ground := Ground.phase }, { on := 4, ground := Ground.phase }, { on := 5, ground := Ground.phase }, { on := 6, ground := Ground.phase }, { on := 7, ground := Ground.phase }, { on := 8, ground := Ground.phase }, { on := 9, ground := Ground.phase }, { on := 10, ground := Ground.phase }, { on := 11, ground := Ground.phase }, { on := 12, ground := Ground.phase }, { on := 13, ground := Ground.phase }, { on := 14, ground := Ground.phase }, { on := 15, ground := Ground.phase }, { on := 16, ground := Ground.phase }], guard := none }) (v := .bool true) rfl (by kernel_rfl) (by kernel_rfl) (by kernel_rfl) (fun _ _ _ h => h.elim) (Or.inl ⟨by rfl, ?y9⟩) hS2.out ?_
      case y9 =>
        intro V hV
        go_simp
      simp only [Act.put, List.setIfInBounds_toArray, List.set_cons_zero, List.set_cons_succ]
      refine wpAnyH_done (by kernel_rfl) ?_ _
      exact hQ V2 hS2.out
set_option maxRecDepth 100000 in
set_option maxHeartbeats 4000000 in
theorem bd13b {Q : Exit → Act → World → Prop} {x2 x3 x4 x5 x6 x7 x9 x10 x11 x12 x13 x14 x15 x16 x17 x18 x19 x20 x21 x22 x23 x24 x25 x26 x27 x28 x29 x30 x31 x32 x33 x34 x35 x36 x37 x38 x39 x40 x41 x42 x43 x44 x45 x46 x47 x48 x49 x50 x51 x52 x53 x54 x55 x56 x57 x58 x59 x60 x61 x62 x63 x64 x65 x66 x67 x68 x69 x70 x71 x72 x73 x74 x75 x76 x77 x78 x79 x80 x81 x82 x83 x84 x85 x86 x87 x88 x89 x90 x91 x92 x93 x94 x95 x96 x97 x98 x99 x100 x101 x102 x103 x104 x105 x106 x107 x108 x109 x110 x111 x112 x113 x114 x115 x116 x117 x118 x119 x120 x121 x122 x123 : Value} {ds : List Deferred} {A : World} {a b : Option Addr} {n cap m cap2 h : Nat} {k1 k2 : Int}
    (H1 : Hid (∀ V, Below A.heap.size A V → Calls Tryd.prog 23 #[.slice a n cap] V fun e V2 => e = .returned (iv k1) ∧ Below V.heap.size V V2)) (H2 : Hid (∀ V, Below A.heap.size A V → Calls Tryd.prog 23 #[.slice b m cap2] V fun e V2 => e = .returned (iv k2) ∧ Below V.heap.size V V2)) (H10 : Hid (∀ V, Below A.heap.size A V → Calls Tryd.prog 10 #[] V fun e V2 => e = .returned (.bool true) ∧ Below V.heap.size V V2)) (q1 : k1 < 0) (q2 : 0 ≤ k2)
    (hQ : ∀ V1, Below A.heap.size A V1 → Q .normal { tmps := #[.slice a n cap, .slice b m cap2, x2, x3, .bool true, x5, x6, x7, .pointer (some ⟨h, 0, none⟩), x9, x10, x11, x12, x13, x14, x15, x16, x17, x18, x19, x20, x21, x22, x23, x24, x25, x26, x27, x28, x29, x30, x31, x32, x33, x34, x35, x36, x37, x38, x39, x40, x41, x42, x43, x44, x45, x46, x47, x48, x49, x50, x51, x52, x53, x54, .slice a n cap, iv k1, .bool false, .bool false, .slice b m cap2, iv k2, .bool true, .bool true, .bool true, undef, undef, undef, undef, .bool true, .bool true, .bool true, .bool true, x72, x73, x74, x75, x76, x77, x78, x79, x80, x81, x82, x83, x84, x85, x86, x87, x88, x89, x90, x91, x92, x93, x94, x95, x96, x97, x98, x99, x100, x101, x102, x103, x104, x105, x106, x107, x108, x109, x110, x111, x112, x113, x114, x115, x116, x117, x118, x119, x120, x121, x122, x123], defers := ds } V1) :
    (Code.region 13 #[{ dst := some 55, op := Op.move (Operand.tmp 0), type := 27, pos := "law.go:134", after := #[], guard := none }, { dst := some 56, op := Op.call { callee := Callee.value (Operand.func 23), args := #[Operand.tmp 55], argTypes := #[27] }, type := 3, pos := "law.go:134", after := #[{ on := 0, ground := Ground.data }], guard := none }, { dst := some 57, op := Op.binOp BinOp.geq 3 (Operand.tmp 56) (Operand.const (Value.int IntKind.i64 0)) 3, type := 4, pos := "law.go:134", after := #[{ on := 1, ground := Ground.data }], guard := none }, { dst := some 58, op := Op.move (Operand.tmp 57), type := 4, pos := "law.go:134", after := #[{ on := 2, ground := Ground.data }, { on := 1, ground := Ground.chain }], guard := none }, { dst := some 59, op := Op.move (Operand.tmp 1), type := 27, pos := "law.go:134", after := #[{ on := 3, ground := Ground.guard }], guard := some (3, false) }, { dst := some 60, op := Op.call { callee := Callee.value (Operand.func 23), args := #[Operand.tmp 59], argTypes := #[27] }, type := 3, pos := "law.go:134", after := #[{ on := 4, ground := Ground.data }, { on := 3, ground := Ground.chain }, { on := 3, ground := Ground.guard }], guard := some (3, false) }, { dst := some 61, op := Op.binOp BinOp.geq 3 (Operand.tmp 60) (Operand.const (Value.int IntKind.i64 0)) 3, type := 4, pos := "law.go:134", after := #[{ on := 5, ground := Ground.data }, { on := 3, ground := Ground.guard }], guard := some (3, false) }, { dst := some 62, op := Op.pick (Operand.tmp 58) (Operand.const (Value.bool true)) (Operand.tmp 61), type := 4, pos := "law.go:134", after := #[{ on := 3, ground := Ground.data }, { on := 6, ground := Ground.data }], guard := none }, { dst := some 63, op := Op.move (Operand.tmp 62), type := 4, pos := "law.go:134", after := #[{ on := 7, ground := Ground.data }, { on := 5, ground := Ground.chain }], guard := none }, { dst := some 64, op := Op.load 35 (Operand.tmp 8), type := 35, pos := "law.go:134", after := #[{ on := 8, ground := Ground.guard }], guard := some (8, false) }, { dst := some 65, op := Op.move (Operand.tmp 1), type := 27, pos := "law.go:134", after := #[{ on := 8, ground := Ground.guard }], guard := some (8, false) }, { dst := some 66, op := Op.call { callee := Callee.value (Operand.func 17), args := #[Operand.tmp 65], argTypes := #[27] }, type := 35, pos := "law.go:134", after := #[{ on := 10, ground := Ground.data }, { on := 8, ground := Ground.chain }, { on := 8, ground := Ground.guard }], guard := some (8, false) }, { dst := some 67, op := Op.binOp BinOp.neq 35 (Operand.tmp 64) (Operand.tmp 66) 35, type := 4, pos := "law.go:134", after := #[{ on := 9, ground := Ground.data }, { on := 11, ground := Ground.data }, { on := 8, ground := Ground.guard }], guard := some (8, false) }, { dst := some 68, op := Op.pick (Operand.tmp 63) (Operand.const (Value.bool true)) (Operand.tmp 67), type := 4, pos := "law.go:134", after := #[{ on := 8, ground := Ground.data }, { on := 12, ground := Ground.data }], guard := none }, { dst := some 69, op := Op.move (Operand.tmp 68), type := 4, pos := "law.go:134", after := #[{ on := 13, ground := Ground.data }, { on := 11, ground := Ground.chain }], guard := none }, { dst := some 70, op := Op.call { callee := Callee.value (Operand.func 10), args := #[], argTypes := #[] }, type := 4, pos := "law.go:134", after := #[{ on := 14, ground := Ground.chain }, { on := 14, ground := Ground.guard }], guard := some (14, true) }, { dst := some 71, op := Op.pick (Operand.tmp 69) (Operand.tmp 70) (Operand.const (Value.bool false)), type := 4, pos := "law.go:134", after := #[{ on := 14, ground := Ground.data }, { on := 15, ground := Ground.data }], guard := none }, { dst := some 4, op := Op.assign (Operand.tmp 71), type := 4, pos := "law.go:134", after := #[{ on := 16, ground := Ground.data }, { on := 15, ground := Ground.chain }, { on := 0, ground := Ground.phase }, { on := 1, ground := Ground.phase }, { on := 2, ground := Ground.phase }, { on := 3, ground := Ground.phase }, { on := 4, ground := Ground.phase }, { on := 5, ground := Ground.phase }, { on := 6, ground := Ground.phase }, { on := 7, ground := Ground.phase }, { on := 8, ground := Ground.phase }, { on := 9, ground := Ground.phase }, { on := 10, ground := Ground.phase }, { on := 11, ground := Ground.phase }, { on := 12, ground := Ground.phase }, { on := 13, ground := Ground.phase }, { on := 14, ground := Ground.phase }, { on := 15, ground := Ground.phase }, { on := 16, ground := Ground.phase }], guard := none }] true).wp Tryd.prog Q { tmps := #[.slice a n cap, .slice b m cap2, x2, x3, x4, x5, x6, x7, .pointer (some ⟨h, 0, none⟩), x9, x10, x11, x12, x13, x14, x15, x16, x17, x18, x19, x20, x21, x22, x23, x24, x25, x26, x27, x28, x29, x30, x31, x32, x33, x34, x35, x36, x37, x38, x39, x40, x41, x42, x43, x44, x45, x46, x47, x48, x49, x50, x51, x52, x53, x54, x55, x56, x57, x58, x59, x60, x61, x62, x63, x64, x65, x66, x67, x68, x69, x70, x71, x72, x73, x74, x75, x76, x77, x78, x79, x80, x81, x82, x83, x84, x85, x86, x87, x88, x89, x90, x91, x92, x93, x94, x95, x96, x97, x98, x99, x100, x101, x102, x103, x104, x105, x106, x107, x108, x109, x110, x111, x112, x113, x114, x115, x116, x117, x118, x119, x120, x121, x122, x123], defers := ds } A := by
  refine Code.wp_mono (Q := fun x a' w' => match x with | .normal => Q .normal a' w' | _ => False) (by intro x a' w' h; cases x <;> first | exact h | exact h.elim) ?_
  refine wp_region_held (S := fun V => Below A.heap.size A V) (by kernel_rfl) ?_
  have hS0 : Hid (Below A.heap.size A A.drew) := below_drew0 A
  change wpAnyH Tryd.prog .any _ _ (fun V => Below A.heap.size A V) 18 (Array.replicate 18 false) _ A.drew
  obtain ⟨V0, hV0⟩ : ∃ V0, A.drew = V0 := ⟨_, rfl⟩
  rw [hV0]
  rw [hV0] at hS0
  clear hV0
  refine wpAnyH_take (i := 0) (oi := { dst := some 55, op := Op.move (Operand.tmp 0), type := 27, pos := "law.go:134", after := #[], guard := none }) (v := .slice a n cap) rfl (by kernel_rfl) (by kernel_rfl) (by kernel_rfl) (fun _ _ _ h => h.elim) (Or.inl ⟨by rfl, ?y1⟩) hS0.out ?_
  case y1 =>
    intro V hV
    go_simp
  simp only [Act.put, List.setIfInBounds_toArray, List.set_cons_zero, List.set_cons_succ]
  refine wpAnyH_ready (rs := [1]) (by kernel_rfl) (by simp) (AllReadyH.cons (i := 1) (o := { dst := some 56, op := Op.call { callee := Callee.value (Operand.func 23), args := #[Operand.tmp 55], argTypes := #[27] }, type := 3, pos := "law.go:134", after := #[{ on := 0, ground := Ground.data }], guard := none }) rfl ?_ AllReadyH.nil)
  · intro K1 hK1
    rw [if_pos (by rfl)]
    have HC1 := H1.out V0 hS0.out
    go_wp2_with fail
    refine HC1.mono ?_
    rintro e V1 ⟨rfl, hb1⟩
    dsimp only
    clear HC1
    have hS1 : Hid (Below A.heap.size A V1) := hS0.out.trans (hb1.mono hS0.out.size)
    clear hb1
    refine hK1.out _ _ hS1.out ?_
    clear hK1
    intro _
    try simp only [Act.put, List.setIfInBounds_toArray, List.set_cons_zero, List.set_cons_succ]
    refine wpAnyH_take (i := 2) (oi := { dst := some 57, op := Op.binOp BinOp.geq 3 (Operand.tmp 56) (Operand.const (Value.int IntKind.i64 0)) 3, type := 4, pos := "law.go:134", after := #[{ on := 1, ground := Ground.data }], guard := none }) (v := .bool false) rfl (by kernel_rfl) (by kernel_rfl) (by kernel_rfl) (fun _ _ _ h => h.elim) (Or.inl ⟨by rfl, ?y2⟩) hS1.out ?_
    case y2 =>
      intro V hV
      have hcmp := q1
      go_simp
    simp only [Act.put, List.setIfInBounds_toArray, List.set_cons_zero, List.set_cons_succ]
    refine wpAnyH_take (i := 3) (oi := { dst := some 58, op := Op.move (Operand.tmp 57), type := 4, pos := "law.go:134", after := #[{ on := 2, ground := Ground.data }, { on := 1, ground := Ground.chain }], guard := none }) (v := .bool false) rfl (by kernel_rfl) (by kernel_rfl) (by kernel_rfl) (fun _ _ _ h => h.elim) (Or.inl ⟨by rfl, ?y3⟩) hS1.out ?_
    case y3 =>
      intro V hV
      go_simp
    simp only [Act.put, List.setIfInBounds_toArray, List.set_cons_zero, List.set_cons_succ]
    refine wpAnyH_take (i := 4) (oi := { dst := some 59, op := Op.move (Operand.tmp 1), type := 27, pos := "law.go:134", after := #[{ on := 3, ground := Ground.guard }], guard := some (3, false) }) (v := .slice b m cap2) rfl (by kernel_rfl) (by kernel_rfl) (by kernel_rfl) (fun _ _ _ h => h.elim) (Or.inl ⟨by rfl, ?y4⟩) hS1.out ?_
    case y4 =>
      intro V hV
      go_simp
    simp only [Act.put, List.setIfInBounds_toArray, List.set_cons_zero, List.set_cons_succ]
    refine wpAnyH_ready (rs := [5]) (by kernel_rfl) (by simp) (AllReadyH.cons (i := 5) (o := { dst := some 60, op := Op.call { callee := Callee.value (Operand.func 23), args := #[Operand.tmp 59], argTypes := #[27] }, type := 3, pos := "law.go:134", after := #[{ on := 4, ground := Ground.data }, { on := 3, ground := Ground.chain }, { on := 3, ground := Ground.guard }], guard := some (3, false) }) rfl ?_ AllReadyH.nil)
    · intro K1 hK1
      rw [if_pos (by rfl)]
      have HC2 := H2.out V1 hS1.out
      go_wp2_with fail
      refine HC2.mono ?_
      rintro e V2 ⟨rfl, hb2⟩
      dsimp only
      clear HC2
      have hS2 : Hid (Below A.heap.size A V2) := hS1.out.trans (hb2.mono hS1.out.size)
      clear hb2
      refine hK1.out _ _ hS2.out ?_
      clear hK1
      intro _
      try simp only [Act.put, List.setIfInBounds_toArray, List.set_cons_zero, List.set_cons_succ]
      refine wpAnyH_take (i := 6) (oi := { dst := some 61, op := Op.binOp BinOp.geq 3 (Operand.tmp 60) (Operand.const (Value.int IntKind.i64 0)) 3, type := 4, pos := "law.go:134", after := #[{ on := 5, ground := Ground.data }, { on := 3, ground := Ground.guard }], guard := some (3, false) }) (v := .bool true) rfl (by kernel_rfl) (by kernel_rfl) (by kernel_rfl) (fun _ _ _ h => h.elim) (Or.inl ⟨by rfl, ?y5⟩) hS2.out ?_
      case y5 =>
        intro V hV
        have hcmp := q2
        go_simp
      simp only [Act.put, List.setIfInBounds_toArray, List.set_cons_zero, List.set_cons_succ]
      refine wpAnyH_take (i := 7) (oi := { dst := some 62, op := Op.pick (Operand.tmp 58) (Operand.const (Value.bool true)) (Operand.tmp 61), type := 4, pos := "law.go:134", after := #[{ on := 3, ground := Ground.data }, { on := 6, ground := Ground.data }], guard := none }) (v := .bool true) rfl (by kernel_rfl) (by kernel_rfl) (by kernel_rfl) (fun _ _ _ h => h.elim) (Or.inl ⟨by rfl, ?y6⟩) hS2.out ?_
      case y6 =>
        intro V hV
        go_simp
      simp only [Act.put, List.setIfInBounds_toArray, List.set_cons_zero, List.set_cons_succ]
      refine wpAnyH_take (i := 8) (oi := { dst := some 63, op := Op.move (Operand.tmp 62), type := 4, pos := "law.go:134", after := #[{ on := 7, ground := Ground.data }, { on := 5, ground := Ground.chain }], guard := none }) (v := .bool true) rfl (by kernel_rfl) (by kernel_rfl) (by kernel_rfl) (fun _ _ _ h => h.elim) (Or.inl ⟨by rfl, ?y7⟩) hS2.out ?_
      case y7 =>
        intro V hV
        go_simp
      simp only [Act.put, List.setIfInBounds_toArray, List.set_cons_zero, List.set_cons_succ]
      refine wpAnyH_take (i := 9) (oi := { dst := some 64, op := Op.load 35 (Operand.tmp 8), type := 35, pos := "law.go:134", after := #[{ on := 8, ground := Ground.guard }], guard := some (8, false) }) (v := undef) rfl (by kernel_rfl) (by kernel_rfl) (by kernel_rfl) (fun _ _ _ h => h.elim) (Or.inr ⟨by rfl, rfl⟩) hS2.out ?_
      simp only [Act.put, List.setIfInBounds_toArray, List.set_cons_zero, List.set_cons_succ]
      refine wpAnyH_take (i := 10) (oi := { dst := some 65, op := Op.move (Operand.tmp 1), type := 27, pos := "law.go:134", after := #[{ on := 8, ground := Ground.guard }], guard := some (8, false) }) (v := undef) rfl (by kernel_rfl) (by kernel_rfl) (by kernel_rfl) (fun _ _ _ h => h.elim) (Or.inr ⟨by rfl, rfl⟩) hS2.out ?_
      simp only [Act.put, List.setIfInBounds_toArray, List.set_cons_zero, List.set_cons_succ]
      refine wpAnyH_take (i := 11) (oi := { dst := some 66, op := Op.call { callee := Callee.value (Operand.func 17), args := #[Operand.tmp 65], argTypes := #[27] }, type := 35, pos := "law.go:134", after := #[{ on := 10, ground := Ground.data }, { on := 8, ground := Ground.chain }, { on := 8, ground := Ground.guard }], guard := some (8, false) }) (v := undef) rfl (by kernel_rfl) (by kernel_rfl) (by kernel_rfl) (fun _ _ _ h => h.elim) (Or.inr ⟨by rfl, rfl⟩) hS2.out ?_
      simp only [Act.put, List.setIfInBounds_toArray, List.set_cons_zero, List.set_cons_succ]
      refine wpAnyH_take (i := 12) (oi := { dst := some 67, op := Op.binOp BinOp.neq 35 (Operand.tmp 64) (Operand.tmp 66) 35, type := 4, pos := "law.go:134", after := #[{ on := 9, ground := Ground.data }, { on := 11, ground := Ground.data }, { on := 8, ground := Ground.guard }], guard := some (8, false) }) (v := undef) rfl (by kernel_rfl) (by kernel_rfl) (by kernel_rfl) (fun _ _ _ h => h.elim) (Or.inr ⟨by rfl, rfl⟩) hS2.out ?_
      simp only [Act.put, List.setIfInBounds_toArray, List.set_cons_zero, List.set_cons_succ]
      refine wpAnyH_take (i := 13) (oi := { dst := some 68, op := Op.pick (Operand.tmp 63) (Operand.const (Value.bool true)) (Operand.tmp 67), type := 4, pos := "law.go:134", after := #[{ on := 8, ground := Ground.data }, { on := 12, ground := Ground.data }], guard := none }) (v := .bool true) rfl (by kernel_rfl) (by kernel_rfl) (by kernel_rfl) (fun _ _ _ h => h.elim) (Or.inl ⟨by rfl, ?y8⟩) hS2.out ?_
      case y8 =>
        intro V hV
        go_simp
      simp only [Act.put, List.setIfInBounds_toArray, List.set_cons_zero, List.set_cons_succ]
      refine wpAnyH_take (i := 14) (oi := { dst := some 69, op := Op.move (Operand.tmp 68), type := 4, pos := "law.go:134", after := #[{ on := 13, ground := Ground.data }, { on := 11, ground := Ground.chain }], guard := none }) (v := .bool true) rfl (by kernel_rfl) (by kernel_rfl) (by kernel_rfl) (fun _ _ _ h => h.elim) (Or.inl ⟨by rfl, ?y9⟩) hS2.out ?_
      case y9 =>
        intro V hV
        go_simp
      simp only [Act.put, List.setIfInBounds_toArray, List.set_cons_zero, List.set_cons_succ]
      refine wpAnyH_ready (rs := [15]) (by kernel_rfl) (by simp) (AllReadyH.cons (i := 15) (o := { dst := some 70, op := Op.call { callee := Callee.value (Operand.func 10), args := #[], argTypes := #[] }, type := 4, pos := "law.go:134", after := #[{ on := 14, ground := Ground.chain }, { on := 14, ground := Ground.guard }], guard := some (14, true) }) rfl ?_ AllReadyH.nil)
      · intro K1 hK1
        rw [if_pos (by rfl)]
        have HC3 := H10.out V2 hS2.out
        go_wp2_with fail
        refine HC3.mono ?_
        rintro e V3 ⟨rfl, hb3⟩
        dsimp only
        clear HC3
        have hS3 : Hid (Below A.heap.size A V3) := hS2.out.trans (hb3.mono hS2.out.size)
        clear hb3
        refine hK1.out _ _ hS3.out ?_
        clear hK1
        intro _
        try simp only [Act.put, List.setIfInBounds_toArray, List.set_cons_zero, List.set_cons_succ]
        refine wpAnyH_take (i := 16) (oi := { dst := some 71, op := Op.pick (Operand.tmp 69) (Operand.tmp 70) (Operand.const (Value.bool false)), type := 4, pos := "law.go:134", after := #[{ on := 14, ground := Ground.data }, { on := 15, ground := Ground.data }], guard := none }) (v := .bool true) rfl (by kernel_rfl) (by kernel_rfl) (by kernel_rfl) (fun _ _ _ h => h.elim) (Or.inl ⟨by rfl, ?y10⟩) hS3.out ?_
        case y10 =>
          intro V hV
          go_simp
        simp only [Act.put, List.setIfInBounds_toArray, List.set_cons_zero, List.set_cons_succ]
        refine wpAnyH_take (i := 17) (oi := { dst := some 4, op := Op.assign (Operand.tmp 71), type := 4, pos := "law.go:134", after := #[{ on := 16, ground := Ground.data }, { on := 15, ground := Ground.chain }, { on := 0, ground := Ground.phase }, { on := 1, ground := Ground.phase }, { on := 2, ground := Ground.phase }, { on := 3, ground := Ground.phase }, { on := 4, ground := Ground.phase }, { on := 5, ground := Ground.phase }, { on := 6, ground := Ground.phase }, { on := 7, ground := Ground.phase }, { on := 8, ground := Ground.phase }, { on := 9, ground := Ground.phase }, { on := 10, ground := Ground.phase }, { on := 11, ground := Ground.phase }, { on := 12, ground := Ground.phase }, { on := 13, ground := Ground.phase }, { on := 14, ground := Ground.phase }, { on := 15, ground := Ground.phase }, { on := 16, ground := Ground.phase }], guard := none }) (v := .bool true) rfl (by kernel_rfl) (by kernel_rfl) (by kernel_rfl) (fun _ _ _ h => h.elim) (Or.inl ⟨by rfl, ?y11⟩) hS3.out ?_
        case y11 =>
          intro V hV
          go_simp
        simp only [Act.put, List.setIfInBounds_toArray, List.set_cons_zero, List.set_cons_succ]
        refine wpAnyH_done (by kernel_rfl) ?_ _
        exact hQ V3 hS3.out
set_option maxRecDepth 100000 in
set_option maxHeartbeats 4000000 in
theorem bd13c {Q : Exit → Act → World → Prop} {x2 x3 x4 x5 x6 x7 x9 x10 x11 x12 x13 x14 x15 x16 x17 x18 x19 x20 x21 x22 x23 x24 x25 x26 x27 x28 x29 x30 x31 x32 x33 x34 x35 x36 x37 x38 x39 x40 x41 x42 x43 x44 x45 x46 x47 x48 x49 x50 x51 x52 x53 x54 x55 x56 x57 x58 x59 x60 x61 x62 x63 x64 x65 x66 x67 x68 x69 x70 x71 x72 x73 x74 x75 x76 x77 x78 x79 x80 x81 x82 x83 x84 x85 x86 x87 x88 x89 x90 x91 x92 x93 x94 x95 x96 x97 x98 x99 x100 x101 x102 x103 x104 x105 x106 x107 x108 x109 x110 x111 x112 x113 x114 x115 x116 x117 x118 x119 x120 x121 x122 x123 : Value} {ds : List Deferred} {A : World} {a b : Option Addr} {n cap m cap2 h : Nat} {k1 k2 : Int} {D D2 : List UInt8}
    (HR : Hid (A.rangeAt h 0 (U D) ∧ h < A.heap.size)) (HDL : Hid (D.length = 32)) (H1 : Hid (∀ V, Below A.heap.size A V → Calls Tryd.prog 23 #[.slice a n cap] V fun e V2 => e = .returned (iv k1) ∧ Below V.heap.size V V2)) (H2 : Hid (∀ V, Below A.heap.size A V → Calls Tryd.prog 23 #[.slice b m cap2] V fun e V2 => e = .returned (iv k2) ∧ Below V.heap.size V V2)) (H17 : Hid (∀ V, Below A.heap.size A V → Calls Tryd.prog 17 #[.slice b m cap2] V fun e V2 => e = .returned (.agg (U D2).toArray) ∧ Below V.heap.size V V2)) (HNE : Hid (∀ W, (binOp .neq 35 (.agg (U D).toArray) (.agg (U D2).toArray)).run Tryd.prog W = .ok (.bool true) W)) (H10 : Hid (∀ V, Below A.heap.size A V → Calls Tryd.prog 10 #[] V fun e V2 => e = .returned (.bool true) ∧ Below V.heap.size V V2)) (q1 : k1 < 0) (q2 : k2 < 0)
    (hQ : ∀ V1, Below A.heap.size A V1 → Q .normal { tmps := #[.slice a n cap, .slice b m cap2, x2, x3, .bool true, x5, x6, x7, .pointer (some ⟨h, 0, none⟩), x9, x10, x11, x12, x13, x14, x15, x16, x17, x18, x19, x20, x21, x22, x23, x24, x25, x26, x27, x28, x29, x30, x31, x32, x33, x34, x35, x36, x37, x38, x39, x40, x41, x42, x43, x44, x45, x46, x47, x48, x49, x50, x51, x52, x53, x54, .slice a n cap, iv k1, .bool false, .bool false, .slice b m cap2, iv k2, .bool false, .bool false, .bool false, .agg (U D).toArray, .slice b m cap2, .agg (U D2).toArray, .bool true, .bool true, .bool true, .bool true, .bool true, x72, x73, x74, x75, x76, x77, x78, x79, x80, x81, x82, x83, x84, x85, x86, x87, x88, x89, x90, x91, x92, x93, x94, x95, x96, x97, x98, x99, x100, x101, x102, x103, x104, x105, x106, x107, x108, x109, x110, x111, x112, x113, x114, x115, x116, x117, x118, x119, x120, x121, x122, x123], defers := ds } V1) :
    (Code.region 13 #[{ dst := some 55, op := Op.move (Operand.tmp 0), type := 27, pos := "law.go:134", after := #[], guard := none }, { dst := some 56, op := Op.call { callee := Callee.value (Operand.func 23), args := #[Operand.tmp 55], argTypes := #[27] }, type := 3, pos := "law.go:134", after := #[{ on := 0, ground := Ground.data }], guard := none }, { dst := some 57, op := Op.binOp BinOp.geq 3 (Operand.tmp 56) (Operand.const (Value.int IntKind.i64 0)) 3, type := 4, pos := "law.go:134", after := #[{ on := 1, ground := Ground.data }], guard := none }, { dst := some 58, op := Op.move (Operand.tmp 57), type := 4, pos := "law.go:134", after := #[{ on := 2, ground := Ground.data }, { on := 1, ground := Ground.chain }], guard := none }, { dst := some 59, op := Op.move (Operand.tmp 1), type := 27, pos := "law.go:134", after := #[{ on := 3, ground := Ground.guard }], guard := some (3, false) }, { dst := some 60, op := Op.call { callee := Callee.value (Operand.func 23), args := #[Operand.tmp 59], argTypes := #[27] }, type := 3, pos := "law.go:134", after := #[{ on := 4, ground := Ground.data }, { on := 3, ground := Ground.chain }, { on := 3, ground := Ground.guard }], guard := some (3, false) }, { dst := some 61, op := Op.binOp BinOp.geq 3 (Operand.tmp 60) (Operand.const (Value.int IntKind.i64 0)) 3, type := 4, pos := "law.go:134", after := #[{ on := 5, ground := Ground.data }, { on := 3, ground := Ground.guard }], guard := some (3, false) }, { dst := some 62, op := Op.pick (Operand.tmp 58) (Operand.const (Value.bool true)) (Operand.tmp 61), type := 4, pos := "law.go:134", after := #[{ on := 3, ground := Ground.data }, { on := 6, ground := Ground.data }], guard := none }, { dst := some 63, op := Op.move (Operand.tmp 62), type := 4, pos := "law.go:134", after := #[{ on := 7, ground := Ground.data }, { on := 5, ground := Ground.chain }], guard := none }, { dst := some 64, op := Op.load 35 (Operand.tmp 8), type := 35, pos := "law.go:134", after := #[{ on := 8, ground := Ground.guard }], guard := some (8, false) }, { dst := some 65, op := Op.move (Operand.tmp 1), type := 27, pos := "law.go:134", after := #[{ on := 8, ground := Ground.guard }], guard := some (8, false) }, { dst := some 66, op := Op.call { callee := Callee.value (Operand.func 17), args := #[Operand.tmp 65], argTypes := #[27] }, type := 35, pos := "law.go:134", after := #[{ on := 10, ground := Ground.data }, { on := 8, ground := Ground.chain }, { on := 8, ground := Ground.guard }], guard := some (8, false) }, { dst := some 67, op := Op.binOp BinOp.neq 35 (Operand.tmp 64) (Operand.tmp 66) 35, type := 4, pos := "law.go:134", after := #[{ on := 9, ground := Ground.data }, { on := 11, ground := Ground.data }, { on := 8, ground := Ground.guard }], guard := some (8, false) }, { dst := some 68, op := Op.pick (Operand.tmp 63) (Operand.const (Value.bool true)) (Operand.tmp 67), type := 4, pos := "law.go:134", after := #[{ on := 8, ground := Ground.data }, { on := 12, ground := Ground.data }], guard := none }, { dst := some 69, op := Op.move (Operand.tmp 68), type := 4, pos := "law.go:134", after := #[{ on := 13, ground := Ground.data }, { on := 11, ground := Ground.chain }], guard := none }, { dst := some 70, op := Op.call { callee := Callee.value (Operand.func 10), args := #[], argTypes := #[] }, type := 4, pos := "law.go:134", after := #[{ on := 14, ground := Ground.chain }, { on := 14, ground := Ground.guard }], guard := some (14, true) }, { dst := some 71, op := Op.pick (Operand.tmp 69) (Operand.tmp 70) (Operand.const (Value.bool false)), type := 4, pos := "law.go:134", after := #[{ on := 14, ground := Ground.data }, { on := 15, ground := Ground.data }], guard := none }, { dst := some 4, op := Op.assign (Operand.tmp 71), type := 4, pos := "law.go:134", after := #[{ on := 16, ground := Ground.data }, { on := 15, ground := Ground.chain }, { on := 0, ground := Ground.phase }, { on := 1, ground := Ground.phase }, { on := 2, ground := Ground.phase }, { on := 3, ground := Ground.phase }, { on := 4, ground := Ground.phase }, { on := 5, ground := Ground.phase }, { on := 6, ground := Ground.phase }, { on := 7, ground := Ground.phase }, { on := 8, ground := Ground.phase }, { on := 9, ground := Ground.phase }, { on := 10, ground := Ground.phase }, { on := 11, ground := Ground.phase }, { on := 12, ground := Ground.phase }, { on := 13, ground := Ground.phase }, { on := 14, ground := Ground.phase }, { on := 15, ground := Ground.phase }, { on := 16, ground := Ground.phase }], guard := none }] true).wp Tryd.prog Q { tmps := #[.slice a n cap, .slice b m cap2, x2, x3, x4, x5, x6, x7, .pointer (some ⟨h, 0, none⟩), x9, x10, x11, x12, x13, x14, x15, x16, x17, x18, x19, x20, x21, x22, x23, x24, x25, x26, x27, x28, x29, x30, x31, x32, x33, x34, x35, x36, x37, x38, x39, x40, x41, x42, x43, x44, x45, x46, x47, x48, x49, x50, x51, x52, x53, x54, x55, x56, x57, x58, x59, x60, x61, x62, x63, x64, x65, x66, x67, x68, x69, x70, x71, x72, x73, x74, x75, x76, x77, x78, x79, x80, x81, x82, x83, x84, x85, x86, x87, x88, x89, x90, x91, x92, x93, x94, x95, x96, x97, x98, x99, x100, x101, x102, x103, x104, x105, x106, x107, x108, x109, x110, x111, x112, x113, x114, x115, x116, x117, x118, x119, x120, x121, x122, x123], defers := ds } A := by
  refine Code.wp_mono (Q := fun x a' w' => match x with | .normal => Q .normal a' w' | _ => False) (by intro x a' w' h; cases x <;> first | exact h | exact h.elim) ?_
  refine wp_region_held (S := fun V => Below A.heap.size A V) (by kernel_rfl) ?_
  have hS0 : Hid (Below A.heap.size A A.drew) := below_drew0 A
  change wpAnyH Tryd.prog .any _ _ (fun V => Below A.heap.size A V) 18 (Array.replicate 18 false) _ A.drew
  obtain ⟨V0, hV0⟩ : ∃ V0, A.drew = V0 := ⟨_, rfl⟩
  rw [hV0]
  rw [hV0] at hS0
  clear hV0
  refine wpAnyH_take (i := 0) (oi := { dst := some 55, op := Op.move (Operand.tmp 0), type := 27, pos := "law.go:134", after := #[], guard := none }) (v := .slice a n cap) rfl (by kernel_rfl) (by kernel_rfl) (by kernel_rfl) (fun _ _ _ h => h.elim) (Or.inl ⟨by rfl, ?y1⟩) hS0.out ?_
  case y1 =>
    intro V hV
    go_simp
  simp only [Act.put, List.setIfInBounds_toArray, List.set_cons_zero, List.set_cons_succ]
  refine wpAnyH_ready (rs := [1]) (by kernel_rfl) (by simp) (AllReadyH.cons (i := 1) (o := { dst := some 56, op := Op.call { callee := Callee.value (Operand.func 23), args := #[Operand.tmp 55], argTypes := #[27] }, type := 3, pos := "law.go:134", after := #[{ on := 0, ground := Ground.data }], guard := none }) rfl ?_ AllReadyH.nil)
  · intro K1 hK1
    rw [if_pos (by rfl)]
    have HC1 := H1.out V0 hS0.out
    go_wp2_with fail
    refine HC1.mono ?_
    rintro e V1 ⟨rfl, hb1⟩
    dsimp only
    clear HC1
    have hS1 : Hid (Below A.heap.size A V1) := hS0.out.trans (hb1.mono hS0.out.size)
    clear hb1
    refine hK1.out _ _ hS1.out ?_
    clear hK1
    intro _
    try simp only [Act.put, List.setIfInBounds_toArray, List.set_cons_zero, List.set_cons_succ]
    refine wpAnyH_take (i := 2) (oi := { dst := some 57, op := Op.binOp BinOp.geq 3 (Operand.tmp 56) (Operand.const (Value.int IntKind.i64 0)) 3, type := 4, pos := "law.go:134", after := #[{ on := 1, ground := Ground.data }], guard := none }) (v := .bool false) rfl (by kernel_rfl) (by kernel_rfl) (by kernel_rfl) (fun _ _ _ h => h.elim) (Or.inl ⟨by rfl, ?y2⟩) hS1.out ?_
    case y2 =>
      intro V hV
      have hcmp := q1
      go_simp
    simp only [Act.put, List.setIfInBounds_toArray, List.set_cons_zero, List.set_cons_succ]
    refine wpAnyH_take (i := 3) (oi := { dst := some 58, op := Op.move (Operand.tmp 57), type := 4, pos := "law.go:134", after := #[{ on := 2, ground := Ground.data }, { on := 1, ground := Ground.chain }], guard := none }) (v := .bool false) rfl (by kernel_rfl) (by kernel_rfl) (by kernel_rfl) (fun _ _ _ h => h.elim) (Or.inl ⟨by rfl, ?y3⟩) hS1.out ?_
    case y3 =>
      intro V hV
      go_simp
    simp only [Act.put, List.setIfInBounds_toArray, List.set_cons_zero, List.set_cons_succ]
    refine wpAnyH_take (i := 4) (oi := { dst := some 59, op := Op.move (Operand.tmp 1), type := 27, pos := "law.go:134", after := #[{ on := 3, ground := Ground.guard }], guard := some (3, false) }) (v := .slice b m cap2) rfl (by kernel_rfl) (by kernel_rfl) (by kernel_rfl) (fun _ _ _ h => h.elim) (Or.inl ⟨by rfl, ?y4⟩) hS1.out ?_
    case y4 =>
      intro V hV
      go_simp
    simp only [Act.put, List.setIfInBounds_toArray, List.set_cons_zero, List.set_cons_succ]
    refine wpAnyH_ready (rs := [5]) (by kernel_rfl) (by simp) (AllReadyH.cons (i := 5) (o := { dst := some 60, op := Op.call { callee := Callee.value (Operand.func 23), args := #[Operand.tmp 59], argTypes := #[27] }, type := 3, pos := "law.go:134", after := #[{ on := 4, ground := Ground.data }, { on := 3, ground := Ground.chain }, { on := 3, ground := Ground.guard }], guard := some (3, false) }) rfl ?_ AllReadyH.nil)
    · intro K1 hK1
      rw [if_pos (by rfl)]
      have HC2 := H2.out V1 hS1.out
      go_wp2_with fail
      refine HC2.mono ?_
      rintro e V2 ⟨rfl, hb2⟩
      dsimp only
      clear HC2
      have hS2 : Hid (Below A.heap.size A V2) := hS1.out.trans (hb2.mono hS1.out.size)
      clear hb2
      refine hK1.out _ _ hS2.out ?_
      clear hK1
      intro _
      try simp only [Act.put, List.setIfInBounds_toArray, List.set_cons_zero, List.set_cons_succ]
      refine wpAnyH_take (i := 6) (oi := { dst := some 61, op := Op.binOp BinOp.geq 3 (Operand.tmp 60) (Operand.const (Value.int IntKind.i64 0)) 3, type := 4, pos := "law.go:134", after := #[{ on := 5, ground := Ground.data }, { on := 3, ground := Ground.guard }], guard := some (3, false) }) (v := .bool false) rfl (by kernel_rfl) (by kernel_rfl) (by kernel_rfl) (fun _ _ _ h => h.elim) (Or.inl ⟨by rfl, ?y5⟩) hS2.out ?_
      case y5 =>
        intro V hV
        have hcmp := q2
        go_simp
      simp only [Act.put, List.setIfInBounds_toArray, List.set_cons_zero, List.set_cons_succ]
      refine wpAnyH_take (i := 7) (oi := { dst := some 62, op := Op.pick (Operand.tmp 58) (Operand.const (Value.bool true)) (Operand.tmp 61), type := 4, pos := "law.go:134", after := #[{ on := 3, ground := Ground.data }, { on := 6, ground := Ground.data }], guard := none }) (v := .bool false) rfl (by kernel_rfl) (by kernel_rfl) (by kernel_rfl) (fun _ _ _ h => h.elim) (Or.inl ⟨by rfl, ?y6⟩) hS2.out ?_
      case y6 =>
        intro V hV
        go_simp
      simp only [Act.put, List.setIfInBounds_toArray, List.set_cons_zero, List.set_cons_succ]
      refine wpAnyH_take (i := 8) (oi := { dst := some 63, op := Op.move (Operand.tmp 62), type := 4, pos := "law.go:134", after := #[{ on := 7, ground := Ground.data }, { on := 5, ground := Ground.chain }], guard := none }) (v := .bool false) rfl (by kernel_rfl) (by kernel_rfl) (by kernel_rfl) (fun _ _ _ h => h.elim) (Or.inl ⟨by rfl, ?y7⟩) hS2.out ?_
      case y7 =>
        intro V hV
        go_simp
      simp only [Act.put, List.setIfInBounds_toArray, List.set_cons_zero, List.set_cons_succ]
      refine wpAnyH_take (i := 9) (oi := { dst := some 64, op := Op.load 35 (Operand.tmp 8), type := 35, pos := "law.go:134", after := #[{ on := 8, ground := Ground.guard }], guard := some (8, false) }) (v := .agg (U D).toArray) rfl (by kernel_rfl) (by kernel_rfl) (by kernel_rfl) (fun _ _ _ h => h.elim) (yieldsIf_load_mid (by rfl) _ _ rfl _ _ rfl (U D) _ (fun V hV => rangeAt_same (HR.out.1) ((show Below A.heap.size A V from hV).block _ (HR.out.2))) Tryd.underlying35 rfl ((by rw [U_length, HDL.out]; exact size35))) hS2.out ?_
      simp only [Act.put, List.setIfInBounds_toArray, List.set_cons_zero, List.set_cons_succ]
      refine wpAnyH_take (i := 10) (oi := { dst := some 65, op := Op.move (Operand.tmp 1), type := 27, pos := "law.go:134", after := #[{ on := 8, ground := Ground.guard }], guard := some (8, false) }) (v := .slice b m cap2) rfl (by kernel_rfl) (by kernel_rfl) (by kernel_rfl) (fun _ _ _ h => h.elim) (Or.inl ⟨by rfl, ?y8⟩) hS2.out ?_
      case y8 =>
        intro V hV
        go_simp
      simp only [Act.put, List.setIfInBounds_toArray, List.set_cons_zero, List.set_cons_succ]
      refine wpAnyH_ready (rs := [11]) (by kernel_rfl) (by simp) (AllReadyH.cons (i := 11) (o := { dst := some 66, op := Op.call { callee := Callee.value (Operand.func 17), args := #[Operand.tmp 65], argTypes := #[27] }, type := 35, pos := "law.go:134", after := #[{ on := 10, ground := Ground.data }, { on := 8, ground := Ground.chain }, { on := 8, ground := Ground.guard }], guard := some (8, false) }) rfl ?_ AllReadyH.nil)
      · intro K1 hK1
        rw [if_pos (by rfl)]
        have HC3 := H17.out V2 hS2.out
        go_wp2_with fail
        refine HC3.mono ?_
        rintro e V3 ⟨rfl, hb3⟩
        dsimp only
        clear HC3
        have hS3 : Hid (Below A.heap.size A V3) := hS2.out.trans (hb3.mono hS2.out.size)
        clear hb3
        refine hK1.out _ _ hS3.out ?_
        clear hK1
        intro _
        try simp only [Act.put, List.setIfInBounds_toArray, List.set_cons_zero, List.set_cons_succ]
        refine wpAnyH_take (i := 12) (oi := { dst := some 67, op := Op.binOp BinOp.neq 35 (Operand.tmp 64) (Operand.tmp 66) 35, type := 4, pos := "law.go:134", after := #[{ on := 9, ground := Ground.data }, { on := 11, ground := Ground.data }, { on := 8, ground := Ground.guard }], guard := some (8, false) }) (v := .bool true) rfl (by kernel_rfl) (by kernel_rfl) (by kernel_rfl) (fun _ _ _ h => h.elim) (Or.inl ⟨by rfl, ?y9⟩) hS3.out ?_
        case y9 =>
          intro V hV
          exact yl_ne35 V _ _ _ _ _ rfl rfl rfl HNE.out
        simp only [Act.put, List.setIfInBounds_toArray, List.set_cons_zero, List.set_cons_succ]
        refine wpAnyH_take (i := 13) (oi := { dst := some 68, op := Op.pick (Operand.tmp 63) (Operand.const (Value.bool true)) (Operand.tmp 67), type := 4, pos := "law.go:134", after := #[{ on := 8, ground := Ground.data }, { on := 12, ground := Ground.data }], guard := none }) (v := .bool true) rfl (by kernel_rfl) (by kernel_rfl) (by kernel_rfl) (fun _ _ _ h => h.elim) (Or.inl ⟨by rfl, ?y10⟩) hS3.out ?_
        case y10 =>
          intro V hV
          go_simp
        simp only [Act.put, List.setIfInBounds_toArray, List.set_cons_zero, List.set_cons_succ]
        refine wpAnyH_take (i := 14) (oi := { dst := some 69, op := Op.move (Operand.tmp 68), type := 4, pos := "law.go:134", after := #[{ on := 13, ground := Ground.data }, { on := 11, ground := Ground.chain }], guard := none }) (v := .bool true) rfl (by kernel_rfl) (by kernel_rfl) (by kernel_rfl) (fun _ _ _ h => h.elim) (Or.inl ⟨by rfl, ?y11⟩) hS3.out ?_
        case y11 =>
          intro V hV
          go_simp
        simp only [Act.put, List.setIfInBounds_toArray, List.set_cons_zero, List.set_cons_succ]
        refine wpAnyH_ready (rs := [15]) (by kernel_rfl) (by simp) (AllReadyH.cons (i := 15) (o := { dst := some 70, op := Op.call { callee := Callee.value (Operand.func 10), args := #[], argTypes := #[] }, type := 4, pos := "law.go:134", after := #[{ on := 14, ground := Ground.chain }, { on := 14, ground := Ground.guard }], guard := some (14, true) }) rfl ?_ AllReadyH.nil)
        · intro K1 hK1
          rw [if_pos (by rfl)]
          have HC4 := H10.out V3 hS3.out
          go_wp2_with fail
          refine HC4.mono ?_
          rintro e V4 ⟨rfl, hb4⟩
          dsimp only
          clear HC4
          have hS4 : Hid (Below A.heap.size A V4) := hS3.out.trans (hb4.mono hS3.out.size)
          clear hb4
          refine hK1.out _ _ hS4.out ?_
          clear hK1
          intro _
          try simp only [Act.put, List.setIfInBounds_toArray, List.set_cons_zero, List.set_cons_succ]
          refine wpAnyH_take (i := 16) (oi := { dst := some 71, op := Op.pick (Operand.tmp 69) (Operand.tmp 70) (Operand.const (Value.bool false)), type := 4, pos := "law.go:134", after := #[{ on := 14, ground := Ground.data }, { on := 15, ground := Ground.data }], guard := none }) (v := .bool true) rfl (by kernel_rfl) (by kernel_rfl) (by kernel_rfl) (fun _ _ _ h => h.elim) (Or.inl ⟨by rfl, ?y12⟩) hS4.out ?_
          case y12 =>
            intro V hV
            go_simp
          simp only [Act.put, List.setIfInBounds_toArray, List.set_cons_zero, List.set_cons_succ]
          refine wpAnyH_take (i := 17) (oi := { dst := some 4, op := Op.assign (Operand.tmp 71), type := 4, pos := "law.go:134", after := #[{ on := 16, ground := Ground.data }, { on := 15, ground := Ground.chain }, { on := 0, ground := Ground.phase }, { on := 1, ground := Ground.phase }, { on := 2, ground := Ground.phase }, { on := 3, ground := Ground.phase }, { on := 4, ground := Ground.phase }, { on := 5, ground := Ground.phase }, { on := 6, ground := Ground.phase }, { on := 7, ground := Ground.phase }, { on := 8, ground := Ground.phase }, { on := 9, ground := Ground.phase }, { on := 10, ground := Ground.phase }, { on := 11, ground := Ground.phase }, { on := 12, ground := Ground.phase }, { on := 13, ground := Ground.phase }, { on := 14, ground := Ground.phase }, { on := 15, ground := Ground.phase }, { on := 16, ground := Ground.phase }], guard := none }) (v := .bool true) rfl (by kernel_rfl) (by kernel_rfl) (by kernel_rfl) (fun _ _ _ h => h.elim) (Or.inl ⟨by rfl, ?y13⟩) hS4.out ?_
          case y13 =>
            intro V hV
            go_simp
          simp only [Act.put, List.setIfInBounds_toArray, List.set_cons_zero, List.set_cons_succ]
          refine wpAnyH_done (by kernel_rfl) ?_ _
          exact hQ V4 hS4.out
/-- what the region leaves: two entries of its own -/
def TwE (A : World) (x y : En) (p q : Nat) (V : World) : Prop := Blk V p 37 x.cells ∧ Blk V q 37 y.cells ∧ Below A.heap.size A V
set_option maxRecDepth 100000 in
set_option maxHeartbeats 4000000 in
theorem bd19 {Q : Exit → Act → World → Prop} {x2 x3 x4 x5 x6 x7 x8 x10 x11 x12 x13 x14 x15 x16 x17 x18 x19 x20 x21 x22 x23 x24 x25 x26 x27 x28 x29 x30 x31 x32 x33 x34 x35 x36 x37 x38 x39 x40 x41 x42 x43 x44 x45 x46 x47 x48 x49 x50 x51 x52 x53 x54 x55 x56 x57 x58 x59 x60 x61 x62 x63 x64 x65 x66 x67 x68 x69 x70 x71 x72 x73 x74 x75 x76 x77 x78 x79 x80 x81 x82 x83 x84 x85 x86 x87 x88 x89 x90 x91 x92 x93 x94 x95 x96 x97 x98 x99 x100 x101 x102 x103 x104 x105 x106 x107 x108 x109 x110 x111 x112 x113 x114 x115 x116 x117 x118 x119 x120 x121 x122 x123 : Value} {ds : List Deferred} {A : World} {b1 o1 b2 o2 n m c1 c2 i j1 j2 : Nat} {x y : En}
    (HX : Hid (x.ok ∧ y.ok)) (HR : Hid (A.rangeAt b1 (o1 + j1 * 36) x.cells ∧ A.rangeAt b2 (o2 + j2 * 36) y.cells ∧ b1 < A.heap.size ∧ b2 < A.heap.size)) (q1 : Hid (IntKind.i64.wrap ((n : Int) - (i : Int)) = (j1 : Int))) (q2 : (j1 : Int) < (n : Int)) (q3 : j1 < n) (q4 : Hid (IntKind.i64.wrap ((m : Int) - (i : Int)) = (j2 : Int))) (q5 : (j2 : Int) < (m : Int)) (q6 : j2 < m)
    (hQ : ∀ (V1 : World) (p q : Nat), TwE A x y p q V1 → Q .normal { tmps := #[.slice (some ⟨b1, o1, none⟩) n c1, .slice (some ⟨b2, o2, none⟩) m c2, x2, x3, x4, x5, x6, x7, x8, iv (i : Int), .pointer (some ⟨p, 0, none⟩), .pointer (some ⟨q, 0, none⟩), x12, x13, x14, x15, x16, x17, x18, x19, x20, x21, x22, x23, x24, x25, x26, x27, x28, x29, x30, x31, x32, x33, x34, x35, x36, x37, x38, x39, x40, x41, x42, x43, x44, x45, x46, x47, x48, x49, x50, x51, x52, x53, x54, x55, x56, x57, x58, x59, x60, x61, x62, x63, x64, x65, x66, x67, x68, x69, x70, x71, x72, x73, x74, x75, x76, x77, x78, x79, x80, x81, x82, x83, x84, x85, x86, x87, .slice (some ⟨b1, o1, none⟩) n c1, .slice (some ⟨b1, o1, none⟩) n c1, iv (n : Int), iv (i : Int), iv (j1 : Int), .pointer (some ⟨b1, o1 + j1 * 36, none⟩), .agg x.cells.toArray, .slice (some ⟨b2, o2, none⟩) m c2, .slice (some ⟨b2, o2, none⟩) m c2, iv (m : Int), iv (i : Int), iv (j2 : Int), .pointer (some ⟨b2, o2 + j2 * 36, none⟩), .agg y.cells.toArray, x102, x103, x104, x105, x106, x107, x108, x109, x110, x111, x112, x113, x114, x115, x116, x117, x118, x119, x120, x121, x122, x123], defers := ds } V1) :
    (Code.region 19 #[{ dst := some 88, op := Op.move (Operand.tmp 0), type := 27, pos := "law.go:141", after := #[], guard := none }, { dst := some 89, op := Op.move (Operand.tmp 0), type := 27, pos := "law.go:141", after := #[], guard := none }, { dst := some 90, op := Op.call { callee := Callee.builtin Builtin.len, args := #[Operand.tmp 89], argTypes := #[27] }, type := 3, pos := "law.go:141", after := #[{ on := 1, ground := Ground.data }], guard := none }, { dst := some 91, op := Op.move (Operand.tmp 9), type := 3, pos := "law.go:141", after := #[], guard := none }, { dst := some 92, op := Op.binOp BinOp.sub 3 (Operand.tmp 90) (Operand.tmp 91) 3, type := 3, pos := "law.go:141", after := #[{ on := 2, ground := Ground.data }, { on := 3, ground := Ground.data }], guard := none }, { dst := some 93, op := Op.indexAddr 27 (Operand.tmp 88) (Operand.tmp 92), type := 0, pos := "law.go:141", after := #[{ on := 0, ground := Ground.data }, { on := 4, ground := Ground.data }], guard := none }, { dst := some 94, op := Op.load 37 (Operand.tmp 93), type := 37, pos := "law.go:141", after := #[{ on := 5, ground := Ground.data }], guard := none }, { dst := some 95, op := Op.move (Operand.tmp 1), type := 27, pos := "law.go:141", after := #[{ on := 16, ground := Ground.gcOnly Departure.lateStores }], guard := none }, { dst := some 96, op := Op.move (Operand.tmp 1), type := 27, pos := "law.go:141", after := #[], guard := none }, { dst := some 97, op := Op.call { callee := Callee.builtin Builtin.len, args := #[Operand.tmp 96], argTypes := #[27] }, type := 3, pos := "law.go:141", after := #[{ on := 8, ground := Ground.data }], guard := none }, { dst := some 98, op := Op.move (Operand.tmp 9), type := 3, pos := "law.go:141", after := #[{ on := 16, ground := Ground.gcOnly Departure.lateStores }], guard := none }, { dst := some 99, op := Op.binOp BinOp.sub 3 (Operand.tmp 97) (Operand.tmp 98) 3, type := 3, pos := "law.go:141", after := #[{ on := 9, ground := Ground.data }, { on := 10, ground := Ground.data }, { on := 16, ground := Ground.gcOnly Departure.lateStores }], guard := none }, { dst := some 100, op := Op.indexAddr 27 (Operand.tmp 95) (Operand.tmp 99), type := 0, pos := "law.go:141", after := #[{ on := 7, ground := Ground.data }, { on := 11, ground := Ground.data }, { on := 16, ground := Ground.gcOnly Departure.lateStores }], guard := none }, { dst := some 101, op := Op.load 37 (Operand.tmp 100), type := 37, pos := "law.go:141", after := #[{ on := 12, ground := Ground.data }, { on := 16, ground := Ground.gcOnly Departure.lateStores }], guard := none }, { dst := some 10, op := Op.alloc 37, type := 0, pos := "law.go:141", after := #[], guard := none }, { dst := some 11, op := Op.alloc 37, type := 0, pos := "law.go:141", after := #[], guard := none }, { dst := none, op := Op.store 37 (Operand.tmp 10) (Operand.tmp 94), type := 0, pos := "law.go:141", after := #[{ on := 14, ground := Ground.data }, { on := 6, ground := Ground.data }, { on := 0, ground := Ground.phase }, { on := 1, ground := Ground.phase }, { on := 2, ground := Ground.phase }, { on := 3, ground := Ground.phase }, { on := 4, ground := Ground.phase }, { on := 5, ground := Ground.phase }, { on := 6, ground := Ground.phase }, { on := 7, ground := Ground.textOnly Departure.lateStores }, { on := 8, ground := Ground.textOnly Departure.lateStores }, { on := 9, ground := Ground.textOnly Departure.lateStoresUnsure }, { on := 10, ground := Ground.textOnly Departure.lateStores }, { on := 11, ground := Ground.textOnly Departure.lateStores }, { on := 12, ground := Ground.textOnly Departure.lateStores }, { on := 13, ground := Ground.textOnly Departure.lateStores }, { on := 14, ground := Ground.phase }, { on := 15, ground := Ground.phase }], guard := none }, { dst := none, op := Op.store 37 (Operand.tmp 11) (Operand.tmp 101), type := 0, pos := "law.go:141", after := #[{ on := 15, ground := Ground.data }, { on := 13, ground := Ground.data }, { on := 16, ground := Ground.chain }, { on := 0, ground := Ground.phase }, { on := 1, ground := Ground.phase }, { on := 2, ground := Ground.phase }, { on := 3, ground := Ground.phase }, { on := 4, ground := Ground.phase }, { on := 5, ground := Ground.phase }, { on := 6, ground := Ground.phase }, { on := 7, ground := Ground.phase }, { on := 8, ground := Ground.phase }, { on := 9, ground := Ground.phase }, { on := 10, ground := Ground.phase }, { on := 11, ground := Ground.phase }, { on := 12, ground := Ground.phase }, { on := 13, ground := Ground.phase }, { on := 14, ground := Ground.phase }, { on := 15, ground := Ground.phase }, { on := 16, ground := Ground.phase }], guard := none }] true).wp Tryd.prog Q { tmps := #[.slice (some ⟨b1, o1, none⟩) n c1, .slice (some ⟨b2, o2, none⟩) m c2, x2, x3, x4, x5, x6, x7, x8, iv (i : Int), x10, x11, x12, x13, x14, x15, x16, x17, x18, x19, x20, x21, x22, x23, x24, x25, x26, x27, x28, x29, x30, x31, x32, x33, x34, x35, x36, x37, x38, x39, x40, x41, x42, x43, x44, x45, x46, x47, x48, x49, x50, x51, x52, x53, x54, x55, x56, x57, x58, x59, x60, x61, x62, x63, x64, x65, x66, x67, x68, x69, x70, x71, x72, x73, x74, x75, x76, x77, x78, x79, x80, x81, x82, x83, x84, x85, x86, x87, x88, x89, x90, x91, x92, x93, x94, x95, x96, x97, x98, x99, x100, x101, x102, x103, x104, x105, x106, x107, x108, x109, x110, x111, x112, x113, x114, x115, x116, x117, x118, x119, x120, x121, x122, x123], defers := ds } A := by
  refine Code.wp_mono (Q := fun x a' w' => match x with | .normal => Q .normal a' w' | _ => False) (by intro x a' w' h; cases x <;> first | exact h | exact h.elim) ?_
  refine wp_region_held (S := fun V => Below A.heap.size A V) (by kernel_rfl) ?_
  have hS0 : Hid (Below A.heap.size A A.drew) := below_drew0 A
  change wpAnyH Tryd.prog .any _ _ (fun V => Below A.heap.size A V) 18 (Array.replicate 18 false) _ A.drew
  obtain ⟨V0, hV0⟩ : ∃ V0, A.drew = V0 := ⟨_, rfl⟩
  rw [hV0]
  rw [hV0] at hS0
  clear hV0
  refine wpAnyH_take (i := 0) (oi := { dst := some 88, op := Op.move (Operand.tmp 0), type := 27, pos := "law.go:141", after := #[], guard := none }) (v := .slice (some ⟨b1, o1, none⟩) n c1) rfl (by kernel_rfl) (by kernel_rfl) (by kernel_rfl) (fun _ _ _ h => h.elim) (Or.inl ⟨by rfl, ?y1⟩) hS0.out ?_
  case y1 =>
    intro V hV
    go_simp
  simp only [Act.put, List.setIfInBounds_toArray, List.set_cons_zero, List.set_cons_succ]
  refine wpAnyH_take (i := 1) (oi := { dst := some 89, op := Op.move (Operand.tmp 0), type := 27, pos := "law.go:141", after := #[], guard := none }) (v := .slice (some ⟨b1, o1, none⟩) n c1) rfl (by kernel_rfl) (by kernel_rfl) (by kernel_rfl) (fun _ _ _ h => h.elim) (Or.inl ⟨by rfl, ?y2⟩) hS0.out ?_
  case y2 =>
    intro V hV
    go_simp
  simp only [Act.put, List.setIfInBounds_toArray, List.set_cons_zero, List.set_cons_succ]
  refine wpAnyH_take (i := 2) (oi := { dst := some 90, op := Op.call { callee := Callee.builtin Builtin.len, args := #[Operand.tmp 89], argTypes := #[27] }, type := 3, pos := "law.go:141", after := #[{ on := 1, ground := Ground.data }], guard := none }) (v := iv (n : Int)) rfl (by kernel_rfl) (by kernel_rfl) (by kernel_rfl) (fun _ _ _ h => h.elim) (Or.inl ⟨by rfl, ?y3⟩) hS0.out ?_
  case y3 =>
    intro V hV
    go_simp
  simp only [Act.put, List.setIfInBounds_toArray, List.set_cons_zero, List.set_cons_succ]
  refine wpAnyH_take (i := 3) (oi := { dst := some 91, op := Op.move (Operand.tmp 9), type := 3, pos := "law.go:141", after := #[], guard := none }) (v := iv (i : Int)) rfl (by kernel_rfl) (by kernel_rfl) (by kernel_rfl) (fun _ _ _ h => h.elim) (Or.inl ⟨by rfl, ?y4⟩) hS0.out ?_
  case y4 =>
    intro V hV
    go_simp
  simp only [Act.put, List.setIfInBounds_toArray, List.set_cons_zero, List.set_cons_succ]
  refine wpAnyH_take (i := 4) (oi := { dst := some 92, op := Op.binOp BinOp.sub 3 (Operand.tmp 90) (Operand.tmp 91) 3, type := 3, pos := "law.go:141", after := #[{ on := 2, ground := Ground.data }, { on := 3, ground := Ground.data }], guard := none }) (v := iv (j1 : Int)) rfl (by kernel_rfl) (by kernel_rfl) (by kernel_rfl) (fun _ _ _ h => h.elim) (Or.inl ⟨by rfl, ?y5⟩) hS0.out ?_
  case y5 =>
    intro V hV
    have qx : IntKind.i64.wrap ((n : Int) - (i : Int)) = (j1 : Int) := q1.out
    go_simp
  simp only [Act.put, List.setIfInBounds_toArray, List.set_cons_zero, List.set_cons_succ]
  refine wpAnyH_take (i := 5) (oi := { dst := some 93, op := Op.indexAddr 27 (Operand.tmp 88) (Operand.tmp 92), type := 0, pos := "law.go:141", after := #[{ on := 0, ground := Ground.data }, { on := 4, ground := Ground.data }], guard := none }) (v := .pointer (some ⟨b1, o1 + j1 * 36, none⟩)) rfl (by kernel_rfl) (by kernel_rfl) (by kernel_rfl) (fun _ _ _ h => h.elim) (Or.inl ⟨by rfl, ?y6⟩) hS0.out ?_
  case y6 =>
    intro V hV
    have hcmp := q2
    have hcmp2 := q3
    go_simp
  simp only [Act.put, List.setIfInBounds_toArray, List.set_cons_zero, List.set_cons_succ]
  refine wpAnyH_take (i := 6) (oi := { dst := some 94, op := Op.load 37 (Operand.tmp 93), type := 37, pos := "law.go:141", after := #[{ on := 5, ground := Ground.data }], guard := none }) (v := .agg x.cells.toArray) rfl (by kernel_rfl) (by kernel_rfl) (by kernel_rfl) (fun _ _ _ h => h.elim) (yieldsIf_load_mid (by rfl) _ _ rfl _ _ rfl (x.cells) _ (fun V hV => rangeAt_same (HR.out.1) ((show Below A.heap.size A V from hV).block _ (HR.out.2.2.1))) Tryd.underlying37 rfl (info37 HX.out.1)) hS0.out ?_
  simp only [Act.put, List.setIfInBounds_toArray, List.set_cons_zero, List.set_cons_succ]
  refine wpAnyH_take (i := 7) (oi := { dst := some 95, op := Op.move (Operand.tmp 1), type := 27, pos := "law.go:141", after := #[{ on := 16, ground := Ground.gcOnly Departure.lateStores }], guard := none }) (v := .slice (some ⟨b2, o2, none⟩) m c2) rfl (by kernel_rfl) (by kernel_rfl) (by kernel_rfl) (fun _ _ _ h => h.elim) (Or.inl ⟨by rfl, ?y7⟩) hS0.out ?_
  case y7 =>
    intro V hV
    go_simp
  simp only [Act.put, List.setIfInBounds_toArray, List.set_cons_zero, List.set_cons_succ]
  refine wpAnyH_take (i := 8) (oi := { dst := some 96, op := Op.move (Operand.tmp 1), type := 27, pos := "law.go:141", after := #[], guard := none }) (v := .slice (some ⟨b2, o2, none⟩) m c2) rfl (by kernel_rfl) (by kernel_rfl) (by kernel_rfl) (fun _ _ _ h => h.elim) (Or.inl ⟨by rfl, ?y8⟩) hS0.out ?_
  case y8 =>
    intro V hV
    go_simp
  simp only [Act.put, List.setIfInBounds_toArray, List.set_cons_zero, List.set_cons_succ]
  refine wpAnyH_take (i := 9) (oi := { dst := some 97, op := Op.call { callee := Callee.builtin Builtin.len, args := #[Operand.tmp 96], argTypes := #[27] }, type := 3, pos := "law.go:141", after := #[{ on := 8, ground := Ground.data }], guard := none }) (v := iv (m : Int)) rfl (by kernel_rfl) (by kernel_rfl) (by kernel_rfl) (fun _ _ _ h => h.elim) (Or.inl ⟨by rfl, ?y9⟩) hS0.out ?_
  case y9 =>
    intro V hV
    go_simp
  simp only [Act.put, List.setIfInBounds_toArray, List.set_cons_zero, List.set_cons_succ]
  refine wpAnyH_take (i := 10) (oi := { dst := some 98, op := Op.move (Operand.tmp 9), type := 3, pos := "law.go:141", after := #[{ on := 16, ground := Ground.gcOnly Departure.lateStores }], guard := none }) (v := iv (i : Int)) rfl (by kernel_rfl) (by kernel_rfl) (by kernel_rfl) (fun _ _ _ h => h.elim) (Or.inl ⟨by rfl, ?y10⟩) hS0.out ?_
  case y10 =>
    intro V hV
    go_simp
  simp only [Act.put, List.setIfInBounds_toArray, List.set_cons_zero, List.set_cons_succ]
  refine wpAnyH_take (i := 11) (oi := { dst := some 99, op := Op.binOp BinOp.sub 3 (Operand.tmp 97) (Operand.tmp 98) 3, type := 3, pos := "law.go:141", after := #[{ on := 9, ground := Ground.data }, { on := 10, ground := Ground.data }, { on := 16, ground := Ground.gcOnly Departure.lateStores }], guard := none }) (v := iv (j2 : Int)) rfl (by kernel_rfl) (by kernel_rfl) (by kernel_rfl) (fun _ _ _ h => h.elim) (Or.inl ⟨by rfl, ?y11⟩) hS0.out ?_
  case y11 =>
    intro V hV
    have qx : IntKind.i64.wrap ((m : Int) - (i : Int)) = (j2 : Int) := q4.out
    go_simp
  simp only [Act.put, List.setIfInBounds_toArray, List.set_cons_zero, List.set_cons_succ]
  refine wpAnyH_take (i := 12) (oi := { dst := some 100, op := Op.indexAddr 27 (Operand.tmp 95) (Operand.tmp 99), type := 0, pos := "law.go:141", after := #[{ on := 7, ground := Ground.data }, { on := 11, ground := Ground.data }, { on := 16, ground := Ground.gcOnly Departure.lateStores }], guard := none }) (v := .pointer (some ⟨b2, o2 + j2 * 36, none⟩)) rfl (by kernel_rfl) (by kernel_rfl) (by kernel_rfl) (fun _ _ _ h => h.elim) (Or.inl ⟨by rfl, ?y12⟩) hS0.out ?_
  case y12 =>
    intro V hV
    have hcmp := q5
    have hcmp2 := q6
    go_simp
  simp only [Act.put, List.setIfInBounds_toArray, List.set_cons_zero, List.set_cons_succ]
  refine wpAnyH_take (i := 13) (oi := { dst := some 101, op := Op.load 37 (Operand.tmp 100), type := 37, pos := "law.go:141", after := #[{ on := 12, ground := Ground.data }, { on := 16, ground := Ground.gcOnly Departure.lateStores }], guard := none }) (v := .agg y.cells.toArray) rfl (by kernel_rfl) (by kernel_rfl) (by kernel_rfl) (fun _ _ _ h => h.elim) (yieldsIf_load_mid (by rfl) _ _ rfl _ _ rfl (y.cells) _ (fun V hV => rangeAt_same (HR.out.2.1) ((show Below A.heap.size A V from hV).block _ (HR.out.2.2.2))) Tryd.underlying37 rfl (info37 HX.out.2)) hS0.out ?_
  simp only [Act.put, List.setIfInBounds_toArray, List.set_cons_zero, List.set_cons_succ]
  refine wpAnyH_ready (rs := [14, 15]) (by kernel_rfl) (by simp) (AllReadyH.cons (i := 14) (o := { dst := some 10, op := Op.alloc 37, type := 0, pos := "law.go:141", after := #[], guard := none }) rfl ?_ (AllReadyH.cons (i := 15) (o := { dst := some 11, op := Op.alloc 37, type := 0, pos := "law.go:141", after := #[], guard := none }) rfl ?_ AllReadyH.nil))
  · intro K1 hK1
    refine step_al (by rfl) 37 rfl zE.cells zero37z ?_
    obtain ⟨V1, hv1⟩ : ∃ V, V0.alloc (.cells zE.cells.toArray 37) = V := ⟨_, rfl⟩
    obtain ⟨p, hq1⟩ : ∃ m, V0.heap.size = m := ⟨_, rfl⟩
    have hS1 : Hid (Below A.heap.size A V1) := by rw [← hv1]; exact below_tr hS0.out (below_al _ _)
    have hX1 : Hid (Blk V1 p 37 zE.cells ∧ A.heap.size ≤ p) := by rw [← hv1, ← hq1]; exact ⟨by simpa using Blk.new V0 zE.cells.toArray 37, hS0.out.size⟩
    rw [hv1, hq1]
    clear hv1 hq1
    refine hK1.out _ _ hS1.out ?_
    clear hK1
    intro _
    try simp only [Act.put, List.setIfInBounds_toArray, List.set_cons_zero, List.set_cons_succ]
    refine wpAnyH_ready (rs := [15]) (by kernel_rfl) (by simp) (AllReadyH.cons (i := 15) (o := { dst := some 11, op := Op.alloc 37, type := 0, pos := "law.go:141", after := #[], guard := none }) rfl ?_ AllReadyH.nil)
    · intro K1 hK1
      refine step_al (by rfl) 37 rfl zE.cells zero37z ?_
      obtain ⟨V2, hv2⟩ : ∃ V, V1.alloc (.cells zE.cells.toArray 37) = V := ⟨_, rfl⟩
      obtain ⟨q, hq2⟩ : ∃ m, V1.heap.size = m := ⟨_, rfl⟩
      have hS2 : Hid (Below A.heap.size A V2) := by rw [← hv2]; exact below_tr hS1.out (below_al _ _)
      have hX2 : Hid (Blk V2 q 37 zE.cells ∧ A.heap.size ≤ q) := by rw [← hv2, ← hq2]; exact ⟨by simpa using Blk.new V1 zE.cells.toArray 37, hS1.out.size⟩
      have hY2 : Hid (Blk V2 p 37 zE.cells ∧ A.heap.size ≤ p) := by rw [← hv2]; exact ⟨hX1.out.1.alloc _, hX1.out.2⟩
      have hNE : Hid (p ≠ q) := by show _ ≠ _; have := hX1.out.1.lt; omega
      rw [hv2, hq2]
      clear hv2 hq2
      refine hK1.out _ _ hS2.out ?_
      clear hK1
      intro _
      try simp only [Act.put, List.setIfInBounds_toArray, List.set_cons_zero, List.set_cons_succ]
      refine wpAnyH_ready (rs := [16]) (by kernel_rfl) (by simp) (AllReadyH.cons (i := 16) (o := { dst := none, op := Op.store 37 (Operand.tmp 10) (Operand.tmp 94), type := 0, pos := "law.go:141", after := #[{ on := 14, ground := Ground.data }, { on := 6, ground := Ground.data }, { on := 0, ground := Ground.phase }, { on := 1, ground := Ground.phase }, { on := 2, ground := Ground.phase }, { on := 3, ground := Ground.phase }, { on := 4, ground := Ground.phase }, { on := 5, ground := Ground.phase }, { on := 6, ground := Ground.phase }, { on := 7, ground := Ground.textOnly Departure.lateStores }, { on := 8, ground := Ground.textOnly Departure.lateStores }, { on := 9, ground := Ground.textOnly Departure.lateStoresUnsure }, { on := 10, ground := Ground.textOnly Departure.lateStores }, { on := 11, ground := Ground.textOnly Departure.lateStores }, { on := 12, ground := Ground.textOnly Departure.lateStores }, { on := 13, ground := Ground.textOnly Departure.lateStores }, { on := 14, ground := Ground.phase }, { on := 15, ground := Ground.phase }], guard := none }) rfl ?_ AllReadyH.nil)
      · intro K1 hK1
        refine step_stB (by rfl) 37 (.tmp 10) (.tmp 94) rfl p x.cells 37 _ rfl rfl hY2.out.1 (by rw [En.len HX.out.1, En.len zE_ok]) (info37 HX.out.1) (En.one _) ?_
        intro V3 hr3 hg3
        have hS3 : Hid (Below A.heap.size A V3) := hS2.out.grown hg3.out hS2.out.size (fun j hj => by cases hj; exact hY2.out.2)
        have hX3 : Hid (Blk V3 p 37 x.cells ∧ A.heap.size ≤ p) := ⟨hr3.out, hY2.out.2⟩
        have hY3 : Hid (Blk V3 q 37 zE.cells ∧ A.heap.size ≤ q) := ⟨hX2.out.1.kept hg3.out (fun hk => by cases hk; exact hNE.out rfl), hX2.out.2⟩
        clear hr3 hg3
        refine hK1.out _ _ hS3.out ?_
        clear hK1
        intro _
        try simp only [Act.put, List.setIfInBounds_toArray, List.set_cons_zero, List.set_cons_succ]
        refine wpAnyH_ready (rs := [17]) (by kernel_rfl) (by simp) (AllReadyH.cons (i := 17) (o := { dst := none, op := Op.store 37 (Operand.tmp 11) (Operand.tmp 101), type := 0, pos := "law.go:141", after := #[{ on := 15, ground := Ground.data }, { on := 13, ground := Ground.data }, { on := 16, ground := Ground.chain }, { on := 0, ground := Ground.phase }, { on := 1, ground := Ground.phase }, { on := 2, ground := Ground.phase }, { on := 3, ground := Ground.phase }, { on := 4, ground := Ground.phase }, { on := 5, ground := Ground.phase }, { on := 6, ground := Ground.phase }, { on := 7, ground := Ground.phase }, { on := 8, ground := Ground.phase }, { on := 9, ground := Ground.phase }, { on := 10, ground := Ground.phase }, { on := 11, ground := Ground.phase }, { on := 12, ground := Ground.phase }, { on := 13, ground := Ground.phase }, { on := 14, ground := Ground.phase }, { on := 15, ground := Ground.phase }, { on := 16, ground := Ground.phase }], guard := none }) rfl ?_ AllReadyH.nil)
        · intro K1 hK1
          refine step_stB (by rfl) 37 (.tmp 11) (.tmp 101) rfl q y.cells 37 _ rfl rfl hY3.out.1 (by rw [En.len HX.out.2, En.len zE_ok]) (info37 HX.out.2) (En.one _) ?_
          intro V4 hr4 hg4
          have hS4 : Hid (Below A.heap.size A V4) := hS3.out.grown hg4.out hS3.out.size (fun j hj => by cases hj; exact hY3.out.2)
          have hX4 : Hid (Blk V4 q 37 y.cells ∧ A.heap.size ≤ q) := ⟨hr4.out, hY3.out.2⟩
          have hY4 : Hid (Blk V4 p 37 x.cells ∧ A.heap.size ≤ p) := ⟨hX3.out.1.kept hg4.out (fun hk => by cases hk; exact hNE.out rfl), hX3.out.2⟩
          clear hr4 hg4
          refine hK1.out _ _ hS4.out ?_
          clear hK1
          intro _
          try simp only [Act.put, List.setIfInBounds_toArray, List.set_cons_zero, List.set_cons_succ]
          refine wpAnyH_done (by kernel_rfl) ?_ _
          exact hQ V4 p q ⟨hY4.out.1, hX4.out.1, hS4.out⟩
  · intro K1 hK1
    refine step_al (by rfl) 37 rfl zE.cells zero37z ?_
    obtain ⟨V1, hv1⟩ : ∃ V, V0.alloc (.cells zE.cells.toArray 37) = V := ⟨_, rfl⟩
    obtain ⟨q, hq1⟩ : ∃ m, V0.heap.size = m := ⟨_, rfl⟩
    have hS1 : Hid (Below A.heap.size A V1) := by rw [← hv1]; exact below_tr hS0.out (below_al _ _)
    have hX1 : Hid (Blk V1 q 37 zE.cells ∧ A.heap.size ≤ q) := by rw [← hv1, ← hq1]; exact ⟨by simpa using Blk.new V0 zE.cells.toArray 37, hS0.out.size⟩
    rw [hv1, hq1]
    clear hv1 hq1
    refine hK1.out _ _ hS1.out ?_
    clear hK1
    intro _
    try simp only [Act.put, List.setIfInBounds_toArray, List.set_cons_zero, List.set_cons_succ]
    refine wpAnyH_ready (rs := [14]) (by kernel_rfl) (by simp) (AllReadyH.cons (i := 14) (o := { dst := some 10, op := Op.alloc 37, type := 0, pos := "law.go:141", after := #[], guard := none }) rfl ?_ AllReadyH.nil)
    · intro K1 hK1
      refine step_al (by rfl) 37 rfl zE.cells zero37z ?_
      obtain ⟨V2, hv2⟩ : ∃ V, V1.alloc (.cells zE.cells.toArray 37) = V := ⟨_, rfl⟩
      obtain ⟨p, hq2⟩ : ∃ m, V1.heap.size = m := ⟨_, rfl⟩
      have hS2 : Hid (Below A.heap.size A V2) := by rw [← hv2]; exact below_tr hS1.out (below_al _ _)
      have hX2 : Hid (Blk V2 p 37 zE.cells ∧ A.heap.size ≤ p) := by rw [← hv2, ← hq2]; exact ⟨by simpa using Blk.new V1 zE.cells.toArray 37, hS1.out.size⟩
      have hY2 : Hid (Blk V2 q 37 zE.cells ∧ A.heap.size ≤ q) := by rw [← hv2]; exact ⟨hX1.out.1.alloc _, hX1.out.2⟩
      have hNE : Hid (q ≠ p) := by show _ ≠ _; have := hX1.out.1.lt; omega
      rw [hv2, hq2]
      clear hv2 hq2
      refine hK1.out _ _ hS2.out ?_
      clear hK1
      intro _
      try simp only [Act.put, List.setIfInBounds_toArray, List.set_cons_zero, List.set_cons_succ]
      refine wpAnyH_ready (rs := [16]) (by kernel_rfl) (by simp) (AllReadyH.cons (i := 16) (o := { dst := none, op := Op.store 37 (Operand.tmp 10) (Operand.tmp 94), type := 0, pos := "law.go:141", after := #[{ on := 14, ground := Ground.data }, { on := 6, ground := Ground.data }, { on := 0, ground := Ground.phase }, { on := 1, ground := Ground.phase }, { on := 2, ground := Ground.phase }, { on := 3, ground := Ground.phase }, { on := 4, ground := Ground.phase }, { on := 5, ground := Ground.phase }, { on := 6, ground := Ground.phase }, { on := 7, ground := Ground.textOnly Departure.lateStores }, { on := 8, ground := Ground.textOnly Departure.lateStores }, { on := 9, ground := Ground.textOnly Departure.lateStoresUnsure }, { on := 10, ground := Ground.textOnly Departure.lateStores }, { on := 11, ground := Ground.textOnly Departure.lateStores }, { on := 12, ground := Ground.textOnly Departure.lateStores }, { on := 13, ground := Ground.textOnly Departure.lateStores }, { on := 14, ground := Ground.phase }, { on := 15, ground := Ground.phase }], guard := none }) rfl ?_ AllReadyH.nil)
      · intro K1 hK1
        refine step_stB (by rfl) 37 (.tmp 10) (.tmp 94) rfl p x.cells 37 _ rfl rfl hX2.out.1 (by rw [En.len HX.out.1, En.len zE_ok]) (info37 HX.out.1) (En.one _) ?_
        intro V3 hr3 hg3
        have hS3 : Hid (Below A.heap.size A V3) := hS2.out.grown hg3.out hS2.out.size (fun j hj => by cases hj; exact hX2.out.2)
        have hX3 : Hid (Blk V3 p 37 x.cells ∧ A.heap.size ≤ p) := ⟨hr3.out, hX2.out.2⟩
        have hY3 : Hid (Blk V3 q 37 zE.cells ∧ A.heap.size ≤ q) := ⟨hY2.out.1.kept hg3.out (fun hk => by cases hk; exact hNE.out.symm rfl), hY2.out.2⟩
        clear hr3 hg3
        refine hK1.out _ _ hS3.out ?_
        clear hK1
        intro _
        try simp only [Act.put, List.setIfInBounds_toArray, List.set_cons_zero, List.set_cons_succ]
        refine wpAnyH_ready (rs := [17]) (by kernel_rfl) (by simp) (AllReadyH.cons (i := 17) (o := { dst := none, op := Op.store 37 (Operand.tmp 11) (Operand.tmp 101), type := 0, pos := "law.go:141", after := #[{ on := 15, ground := Ground.data }, { on := 13, ground := Ground.data }, { on := 16, ground := Ground.chain }, { on := 0, ground := Ground.phase }, { on := 1, ground := Ground.phase }, { on := 2, ground := Ground.phase }, { on := 3, ground := Ground.phase }, { on := 4, ground := Ground.phase }, { on := 5, ground := Ground.phase }, { on := 6, ground := Ground.phase }, { on := 7, ground := Ground.phase }, { on := 8, ground := Ground.phase }, { on := 9, ground := Ground.phase }, { on := 10, ground := Ground.phase }, { on := 11, ground := Ground.phase }, { on := 12, ground := Ground.phase }, { on := 13, ground := Ground.phase }, { on := 14, ground := Ground.phase }, { on := 15, ground := Ground.phase }, { on := 16, ground := Ground.phase }], guard := none }) rfl ?_ AllReadyH.nil)
        · intro K1 hK1
          refine step_stB (by rfl) 37 (.tmp 11) (.tmp 101) rfl q y.cells 37 _ rfl rfl hY3.out.1 (by rw [En.len HX.out.2, En.len zE_ok]) (info37 HX.out.2) (En.one _) ?_
          intro V4 hr4 hg4
          have hS4 : Hid (Below A.heap.size A V4) := hS3.out.grown hg4.out hS3.out.size (fun j hj => by cases hj; exact hY3.out.2)
          have hX4 : Hid (Blk V4 q 37 y.cells ∧ A.heap.size ≤ q) := ⟨hr4.out, hY3.out.2⟩
          have hY4 : Hid (Blk V4 p 37 x.cells ∧ A.heap.size ≤ p) := ⟨hX3.out.1.kept hg4.out (fun hk => by cases hk; exact hNE.out.symm rfl), hX3.out.2⟩
          clear hr4 hg4
          refine hK1.out _ _ hS4.out ?_
          clear hK1
          intro _
          try simp only [Act.put, List.setIfInBounds_toArray, List.set_cons_zero, List.set_cons_succ]
          refine wpAnyH_done (by kernel_rfl) ?_ _
          exact hQ V4 p q ⟨hY4.out.1, hX4.out.1, hS4.out⟩
set_option maxRecDepth 100000 in
set_option maxHeartbeats 4000000 in
theorem bd21 {Q : Exit → Act → World → Prop} {x0 x1 x2 x3 x4 x5 x6 x7 x8 x9 x12 x13 x14 x15 x16 x17 x18 x19 x20 x21 x22 x23 x24 x25 x26 x27 x28 x29 x30 x31 x32 x33 x34 x35 x36 x37 x38 x39 x40 x41 x42 x43 x44 x45 x46 x47 x48 x49 x50 x51 x52 x53 x54 x55 x56 x57 x58 x59 x60 x61 x62 x63 x64 x65 x66 x67 x68 x69 x70 x71 x72 x73 x74 x75 x76 x77 x78 x79 x80 x81 x82 x83 x84 x85 x86 x87 x88 x89 x90 x91 x92 x93 x94 x95 x96 x97 x98 x99 x100 x101 x102 x103 x104 x105 x106 x107 x108 x109 x110 x111 x112 x113 x114 x115 x116 x117 x118 x119 x120 x121 x122 x123 : Value} {ds : List Deferred} {A : World} {p q : Nat} {x y : En} {D : List UInt8}
    (HX : Hid (x.ok ∧ y.ok)) (HR : Hid (A.rangeAt p 0 x.cells ∧ A.rangeAt q 0 y.cells ∧ p < A.heap.size ∧ q < A.heap.size)) (HD1 : Hid (∀ V, Below A.heap.size A V → Calls Tryd.prog 20 #[.agg x.cells.toArray] V fun e V2 => e = .returned (.agg (U D).toArray) ∧ Below V.heap.size V V2)) (HD2 : Hid (∀ V, Below A.heap.size A V → Calls Tryd.prog 20 #[.agg y.cells.toArray] V fun e V2 => e = .returned (.agg (U D).toArray) ∧ Below V.heap.size V V2)) (HEQ : Hid (∀ W, (binOp .eql 35 (.agg (U D).toArray) (.agg (U D).toArray)).run Tryd.prog W = .ok (.bool true) W)) (H10 : Hid (∀ V, Below A.heap.size A V → Calls Tryd.prog 10 #[] V fun e V2 => e = .returned (.bool true) ∧ Below V.heap.size V V2))
    (hQ : ∀ V1, Below A.heap.size A V1 → Q .normal { tmps := #[x0, x1, x2, x3, .bool true, x5, x6, x7, x8, x9, .pointer (some ⟨p, 0, none⟩), .pointer (some ⟨q, 0, none⟩), x12, x13, x14, x15, x16, x17, x18, x19, x20, x21, x22, x23, x24, x25, x26, x27, x28, x29, x30, x31, x32, x33, x34, x35, x36, x37, x38, x39, x40, x41, x42, x43, x44, x45, x46, x47, x48, x49, x50, x51, x52, x53, x54, x55, x56, x57, x58, x59, x60, x61, x62, x63, x64, x65, x66, x67, x68, x69, x70, x71, x72, x73, x74, x75, x76, x77, x78, x79, x80, x81, x82, x83, x84, x85, x86, x87, x88, x89, x90, x91, x92, x93, x94, x95, x96, x97, x98, x99, x100, x101, x102, x103, x104, .agg x.cells.toArray, .agg (U D).toArray, .agg y.cells.toArray, .agg (U D).toArray, .bool true, .bool true, .bool true, .bool true, x113, x114, x115, x116, x117, x118, x119, x120, x121, x122, x123], defers := ds } V1) :
    (Code.region 21 #[{ dst := some 105, op := Op.load 37 (Operand.tmp 10), type := 37, pos := "law.go:143", after := #[], guard := none }, { dst := some 106, op := Op.call { callee := Callee.value (Operand.func 20), args := #[Operand.tmp 105], argTypes := #[37] }, type := 35, pos := "law.go:143", after := #[{ on := 0, ground := Ground.data }], guard := none }, { dst := some 107, op := Op.load 37 (Operand.tmp 11), type := 37, pos := "law.go:143", after := #[], guard := none }, { dst := some 108, op := Op.call { callee := Callee.value (Operand.func 20), args := #[Operand.tmp 107], argTypes := #[37] }, type := 35, pos := "law.go:143", after := #[{ on := 2, ground := Ground.data }, { on := 1, ground := Ground.chain }], guard := none }, { dst := some 109, op := Op.binOp BinOp.eql 35 (Operand.tmp 106) (Operand.tmp 108) 35, type := 4, pos := "law.go:143", after := #[{ on := 1, ground := Ground.data }, { on := 3, ground := Ground.data }], guard := none }, { dst := some 110, op := Op.move (Operand.tmp 109), type := 4, pos := "law.go:143", after := #[{ on := 4, ground := Ground.data }, { on := 3, ground := Ground.chain }], guard := none }, { dst := some 111, op := Op.call { callee := Callee.value (Operand.func 10), args := #[], argTypes := #[] }, type := 4, pos := "law.go:143", after := #[{ on := 5, ground := Ground.chain }, { on := 5, ground := Ground.guard }], guard := some (5, true) }, { dst := some 112, op := Op.pick (Operand.tmp 110) (Operand.tmp 111) (Operand.const (Value.bool false)), type := 4, pos := "law.go:143", after := #[{ on := 5, ground := Ground.data }, { on := 6, ground := Ground.data }], guard := none }, { dst := some 4, op := Op.assign (Operand.tmp 112), type := 4, pos := "law.go:143", after := #[{ on := 7, ground := Ground.data }, { on := 6, ground := Ground.chain }, { on := 0, ground := Ground.phase }, { on := 1, ground := Ground.phase }, { on := 2, ground := Ground.phase }, { on := 3, ground := Ground.phase }, { on := 4, ground := Ground.phase }, { on := 5, ground := Ground.phase }, { on := 6, ground := Ground.phase }, { on := 7, ground := Ground.phase }], guard := none }] true).wp Tryd.prog Q { tmps := #[x0, x1, x2, x3, x4, x5, x6, x7, x8, x9, .pointer (some ⟨p, 0, none⟩), .pointer (some ⟨q, 0, none⟩), x12, x13, x14, x15, x16, x17, x18, x19, x20, x21, x22, x23, x24, x25, x26, x27, x28, x29, x30, x31, x32, x33, x34, x35, x36, x37, x38, x39, x40, x41, x42, x43, x44, x45, x46, x47, x48, x49, x50, x51, x52, x53, x54, x55, x56, x57, x58, x59, x60, x61, x62, x63, x64, x65, x66, x67, x68, x69, x70, x71, x72, x73, x74, x75, x76, x77, x78, x79, x80, x81, x82, x83, x84, x85, x86, x87, x88, x89, x90, x91, x92, x93, x94, x95, x96, x97, x98, x99, x100, x101, x102, x103, x104, x105, x106, x107, x108, x109, x110, x111, x112, x113, x114, x115, x116, x117, x118, x119, x120, x121, x122, x123], defers := ds } A := by
  refine Code.wp_mono (Q := fun x a' w' => match x with | .normal => Q .normal a' w' | _ => False) (by intro x a' w' h; cases x <;> first | exact h | exact h.elim) ?_
  refine wp_region_held (S := fun V => Below A.heap.size A V) (by kernel_rfl) ?_
  have hS0 : Hid (Below A.heap.size A A.drew) := below_drew0 A
  change wpAnyH Tryd.prog .any _ _ (fun V => Below A.heap.size A V) 9 (Array.replicate 9 false) _ A.drew
  obtain ⟨V0, hV0⟩ : ∃ V0, A.drew = V0 := ⟨_, rfl⟩
  rw [hV0]
  rw [hV0] at hS0
  clear hV0
  refine wpAnyH_take (i := 0) (oi := { dst := some 105, op := Op.load 37 (Operand.tmp 10), type := 37, pos := "law.go:143", after := #[], guard := none }) (v := .agg x.cells.toArray) rfl (by kernel_rfl) (by kernel_rfl) (by kernel_rfl) (fun _ _ _ h => h.elim) (yieldsIf_load_mid (by rfl) _ _ rfl _ _ rfl (x.cells) _ (fun V hV => rangeAt_same (HR.out.1) ((show Below A.heap.size A V from hV).block _ (HR.out.2.2.1))) Tryd.underlying37 rfl (info37 HX.out.1)) hS0.out ?_
  simp only [Act.put, List.setIfInBounds_toArray, List.set_cons_zero, List.set_cons_succ]
  refine wpAnyH_take (i := 2) (oi := { dst := some 107, op := Op.load 37 (Operand.tmp 11), type := 37, pos := "law.go:143", after := #[], guard := none }) (v := .agg y.cells.toArray) rfl (by kernel_rfl) (by kernel_rfl) (by kernel_rfl) (fun _ _ _ h => h.elim) (yieldsIf_load_mid (by rfl) _ _ rfl _ _ rfl (y.cells) _ (fun V hV => rangeAt_same (HR.out.2.1) ((show Below A.heap.size A V from hV).block _ (HR.out.2.2.2))) Tryd.underlying37 rfl (info37 HX.out.2)) hS0.out ?_
  simp only [Act.put, List.setIfInBounds_toArray, List.set_cons_zero, List.set_cons_succ]
  refine wpAnyH_ready (rs := [1]) (by kernel_rfl) (by simp) (AllReadyH.cons (i := 1) (o := { dst := some 106, op := Op.call { callee := Callee.value (Operand.func 20), args := #[Operand.tmp 105], argTypes := #[37] }, type := 35, pos := "law.go:143", after := #[{ on := 0, ground := Ground.data }], guard := none }) rfl ?_ AllReadyH.nil)
  · intro K1 hK1
    rw [if_pos (by rfl)]
    have HC1 := HD1.out V0 hS0.out
    go_wp2_with fail
    refine HC1.mono ?_
    rintro e V1 ⟨rfl, hb1⟩
    dsimp only
    clear HC1
    have hS1 : Hid (Below A.heap.size A V1) := hS0.out.trans (hb1.mono hS0.out.size)
    clear hb1
    refine hK1.out _ _ hS1.out ?_
    clear hK1
    intro _
    try simp only [Act.put, List.setIfInBounds_toArray, List.set_cons_zero, List.set_cons_succ]
    refine wpAnyH_ready (rs := [3]) (by kernel_rfl) (by simp) (AllReadyH.cons (i := 3) (o := { dst := some 108, op := Op.call { callee := Callee.value (Operand.func 20), args := #[Operand.tmp 107], argTypes := #[37] }, type := 35, pos := "law.go:143", after := #[{ on := 2, ground := Ground.data }, { on := 1, ground := Ground.chain }], guard := none }) rfl ?_ AllReadyH.nil)
    · intro K1 hK1
      rw [if_pos (by rfl)]
      have HC2 := HD2.out V1 hS1.out
      go_wp2_with fail
      refine HC2.mono ?_
      rintro e V2 ⟨rfl, hb2⟩
      dsimp only
      clear HC2
      have hS2 : Hid (Below A.heap.size A V2) := hS1.out.trans (hb2.mono hS1.out.size)
      clear hb2
      refine hK1.out _ _ hS2.out ?_
      clear hK1
      intro _
      try simp only [Act.put, List.setIfInBounds_toArray, List.set_cons_zero, List.set_cons_succ]
      refine wpAnyH_take (i := 4) (oi := { dst := some 109, op := Op.binOp BinOp.eql 35 (Operand.tmp 106) (Operand.tmp 108) 35, type := 4, pos := "law.go:143", after := #[{ on := 1, ground := Ground.data }, { on := 3, ground := Ground.data }], guard := none }) (v := .bool true) rfl (by kernel_rfl) (by kernel_rfl) (by kernel_rfl) (fun _ _ _ h => h.elim) (Or.inl ⟨by rfl, ?y1⟩) hS2.out ?_
      case y1 =>
        intro V hV
        exact yl_eq35 V _ _ _ _ _ rfl rfl rfl HEQ.out
      simp only [Act.put, List.setIfInBounds_toArray, List.set_cons_zero, List.set_cons_succ]
      refine wpAnyH_take (i := 5) (oi := { dst := some 110, op := Op.move (Operand.tmp 109), type := 4, pos := "law.go:143", after := #[{ on := 4, ground := Ground.data }, { on := 3, ground := Ground.chain }], guard := none }) (v := .bool true) rfl (by kernel_rfl) (by kernel_rfl) (by kernel_rfl) (fun _ _ _ h => h.elim) (Or.inl ⟨by rfl, ?y2⟩) hS2.out ?_
      case y2 =>
        intro V hV
        go_simp
      simp only [Act.put, List.setIfInBounds_toArray, List.set_cons_zero, List.set_cons_succ]
      refine wpAnyH_ready (rs := [6]) (by kernel_rfl) (by simp) (AllReadyH.cons (i := 6) (o := { dst := some 111, op := Op.call { callee := Callee.value (Operand.func 10), args := #[], argTypes := #[] }, type := 4, pos := "law.go:143", after := #[{ on := 5, ground := Ground.chain }, { on := 5, ground := Ground.guard }], guard := some (5, true) }) rfl ?_ AllReadyH.nil)
      · intro K1 hK1
        rw [if_pos (by rfl)]
        have HC3 := H10.out V2 hS2.out
        go_wp2_with fail
        refine HC3.mono ?_
        rintro e V3 ⟨rfl, hb3⟩
        dsimp only
        clear HC3
        have hS3 : Hid (Below A.heap.size A V3) := hS2.out.trans (hb3.mono hS2.out.size)
        clear hb3
        refine hK1.out _ _ hS3.out ?_
        clear hK1
        intro _
        try simp only [Act.put, List.setIfInBounds_toArray, List.set_cons_zero, List.set_cons_succ]
        refine wpAnyH_take (i := 7) (oi := { dst := some 112, op := Op.pick (Operand.tmp 110) (Operand.tmp 111) (Operand.const (Value.bool false)), type := 4, pos := "law.go:143", after := #[{ on := 5, ground := Ground.data }, { on := 6, ground := Ground.data }], guard := none }) (v := .bool true) rfl (by kernel_rfl) (by kernel_rfl) (by kernel_rfl) (fun _ _ _ h => h.elim) (Or.inl ⟨by rfl, ?y3⟩) hS3.out ?_
        case y3 =>
          intro V hV
          go_simp
        simp only [Act.put, List.setIfInBounds_toArray, List.set_cons_zero, List.set_cons_succ]
        refine wpAnyH_take (i := 8) (oi := { dst := some 4, op := Op.assign (Operand.tmp 112), type := 4, pos := "law.go:143", after := #[{ on := 7, ground := Ground.data }, { on := 6, ground := Ground.chain }, { on := 0, ground := Ground.phase }, { on := 1, ground := Ground.phase }, { on := 2, ground := Ground.phase }, { on := 3, ground := Ground.phase }, { on := 4, ground := Ground.phase }, { on := 5, ground := Ground.phase }, { on := 6, ground := Ground.phase }, { on := 7, ground := Ground.phase }], guard := none }) (v := .bool true) rfl (by kernel_rfl) (by kernel_rfl) (by kernel_rfl) (fun _ _ _ h => h.elim) (Or.inl ⟨by rfl, ?y4⟩) hS3.out ?_
        case y4 =>
          intro V hV
          go_simp
        simp only [Act.put, List.setIfInBounds_toArray, List.set_cons_zero, List.set_cons_succ]
        refine wpAnyH_done (by kernel_rfl) ?_ _
        exact hQ V3 hS3.out
end Go.Proofs.YtmmpafaegmejlaaDoor.Oct

/- Layer 19 (audit): the law AuditBound. -/
namespace Go.Proofs.YtmmpafaegmejlaaDoor.Oct
open Go.RowKit Sha
set_option linter.unusedSimpArgs false
set_option linter.unusedVariables false

set_option maxRecDepth 100000 in
set_option maxHeartbeats 8000000 in
theorem bound_law {w : World} {a b : Option Addr} {n m cap cap2 : Nat} {l r : List En} (h : EsR w (.slice a l.length cap) l) (hn : l.length = n) (h' : EsR w (.slice b r.length cap2) r) (hm : r.length = m) (hk : KT w) (hs : ST w) : Calls Tryd.prog 6 #[.slice a n cap, .slice b m cap2] w fun e w' => e = .returned (.bool true) ∧ Below w.heap.size w w' := by
  have HE : Hid (EsR w (.slice a n cap) l ∧ l.length = n) := ⟨by rw [← hn]; exact h, hn⟩
  have HE2 : Hid (EsR w (.slice b m cap2) r ∧ r.length = m) := ⟨by rw [← hm]; exact h', hm⟩
  have HK : Hid (KT w ∧ ST w) := ⟨hk, hs⟩
  have HKV : Hid (∀ V, Below w.heap.size w V → KT V ∧ ST V ∧ EsR V (.slice a n cap) l ∧ EsR V (.slice b m cap2) r) := fun V hV => ⟨hk.below hV, hs.below hV, HE.out.1.below hV, HE2.out.1.below hV⟩
  obtain ⟨hok, a', cap', heq, hle, hcap, hr⟩ := h
  cases heq
  obtain ⟨hok', b', cap2', heq', hle', hcap', hr'⟩ := h'
  cases heq'
  have qn : (n : Int) ≤ 9223372036854775807 := by unfold maxLen at hcap; omega
  have qm : (m : Int) ≤ 9223372036854775807 := by unfold maxLen at hcap'; omega
  rw [hn] at hr
  rw [hm] at hr'
  have HRA : Hid (0 < n → ∃ b off, a = some ⟨b, off, none⟩ ∧ b < w.heap.size ∧ ∀ i e, l[i]? = some e → w.rangeAt b (off + i * 36) e.cells) := hr
  have HRB : Hid (0 < m → ∃ b' off, b = some ⟨b', off, none⟩ ∧ b' < w.heap.size ∧ ∀ i e, r[i]? = some e → w.rangeAt b' (off + i * 36) e.cells) := hr'
  obtain ⟨Z, hZ, HZ⟩ := zero37
  obtain ⟨Y, hY, HY⟩ := zero35
  clear hok hle hcap hr hn hk hs hok' hle' hcap' hr' hm
  go_enter Tryd.func6, Tryd.ntmps6
  by_cases hb1 : 100 < (n : Int)
  · go_wp2_with fail
    refine (lives_is w HK.out.1 HK.out.2).mono ?_
    rintro e X2 ⟨rfl, hb2⟩
    have HF : Hid (Below w.heap.size w X2) := hb2
    clear hb2
    go_wp2
    go_ret
    exact ⟨rfl, HF.out⟩
  have qn2 : (n : Int) ≤ 100 := by omega
  clear hb1 qn
  by_cases hb1 : 100 < (m : Int)
  · go_wp2_with fail
    refine (lives_is w HK.out.1 HK.out.2).mono ?_
    rintro e X2 ⟨rfl, hb2⟩
    have HF : Hid (Below w.heap.size w X2) := hb2
    clear hb2
    go_wp2
    go_ret
    exact ⟨rfl, HF.out⟩
  have qm2 : (m : Int) ≤ 100 := by omega
  clear hb1 qm
  have HL : Hid (l.length ≤ 100 ∧ r.length ≤ 100) := ⟨by have := HE.out.2; omega, by have := HE2.out.2; omega⟩
  go_wp2_with fail
  refine (fresh_is HE.out.1 (by have := HL.out.1; omega)).mono ?_
  rintro e X1 ⟨v1, rfl, ho1, hb1⟩
  have HX1 : Hid (OwE X1 w.heap.size v1 l ∧ Below w.heap.size w X1) := ⟨ho1.out, hb1⟩
  clear ho1 hb1
  go_wp2_with (with_reducible change wpList _ _ _ ({ dst := some 24, op := _, type := _, pos := _, after := _, guard := _ } :: _) _ _; refine Hid.out ?_)
  show wpList _ _ _ _ _ _
  refine wpList_app rfl (.tmp 22) (.tmp 23) rfl HX1.out.1 (HKV.out X1 HX1.out.2).2.2.2 (by have := HL.out; omega) HX1.out.2.size rfl rfl ?_
  intro v24 X2 ho2 hg2 _
  have hbX : Below w.heap.size w X2 := below_own HX1.out.2 hg2.out (fun j hj => (HX1.out.1.lt hj).1)
  obtain ⟨_, a24, c24, rfl, hle, hcap, hr⟩ := ho2.out.esr
  obtain ⟨t, ht⟩ : ∃ t, (l ++ r).length = t := ⟨_, rfl⟩
  rw [ht] at hle hr ⊢
  have HX2 : Hid (Below w.heap.size w X2 ∧ (l ++ r).length = t ∧ (0 < t → ∃ b off, a24 = some ⟨b, off, none⟩ ∧ b < X2.heap.size ∧ ∀ i e, (l ++ r)[i]? = some e → X2.rangeAt b (off + i * 36) e.cells) ∧ ∀ e ∈ l ++ r, e.ok) := ⟨hbX, ht, hr, ho2.out.2⟩
  have qt : (t : Int) ≤ 200 := by have := HL.out; rw [← ht, List.length_append]; omega
  clear ho2 hg2 hbX hle hcap hr ht HX1
  go_wp2
  go_loopw [26, 5] (fun u v wr => ∃ i s : Nat, u = iv (i : Int) ∧ v = iv (s : Int) ∧ s ≤ 100000 ∧ Hid (i ≤ t ∧ (∀ j e, j < i → (l ++ r)[j]? = some e → e.who.size + e.what.size ≤ s) ∧ Below X2.heap.size X2 wr)) (fun u _ _ => t - (intOf u).toNat)
  case atStart => exact ⟨0, 0, rfl, rfl, by omega, Nat.zero_le _, fun j e hj => absurd hj (by omega), Below.refl _ _⟩
  case round =>
    obtain ⟨i, s, rfl, rfl, hs, HI⟩ := hrel
    by_cases hi : i = t
    · subst hi
      have HW : Hid (Below w.heap.size w wr ∧ (∀ e ∈ l, e.rz ∧ e.sz) ∧ (∀ e ∈ r, e.rz ∧ e.sz)) := by
        have hall : ∀ e ∈ l ++ r, e.who.size + e.what.size ≤ 100000 := fun e he => by
          obtain ⟨j, hj, he2⟩ := List.mem_iff_getElem.1 he
          have := HI.out.2.1 j e (by have := HX2.out.2.1; omega) (by rw [List.getElem?_eq_getElem hj, he2])
          omega
        exact ⟨below_tr HX2.out.1 HI.out.2.2, fun e he => by have := hall e (by simp [he]); exact ⟨by show _ ≤ _; omega, by show _ ≤ _; omega⟩, fun e he => by have := hall e (by simp [he]); exact ⟨by show _ ≤ _; omega, by show _ ≤ _; omega⟩⟩
      have HLA : Hid (l.length ≤ 1000000 ∧ r.length ≤ 1000000 ∧ (∀ e ∈ l, e.rz) ∧ (∀ e ∈ r, e.rz) ∧ (∀ e ∈ l, e.sz) ∧ (∀ e ∈ r, e.sz)) := ⟨by have := HL.out; omega, by have := HL.out; omega, fun e he => (HW.out.2.1 e he).1, fun e he => (HW.out.2.2 e he).1, fun e he => (HW.out.2.1 e he).2, fun e he => (HW.out.2.2 e he).2⟩
      clear HI HX2 hs
      obtain ⟨W0, hW0⟩ : ∃ W0, W0 = wr := ⟨_, rfl⟩
      subst hW0
      obtain ⟨D, hD⟩ : ∃ D, hdE l = D := ⟨_, rfl⟩
      obtain ⟨D2, hD2⟩ : ∃ D, hdE r = D := ⟨_, rfl⟩
      have HD : Hid (hdE l = D ∧ D.length = 32 ∧ hdE r = D2 ∧ D2.length = 32) := ⟨hD, by rw [← hD]; exact hdE_len l, hD2, by rw [← hD2]; exact hdE_len r⟩
      clear hD hD2
      go_wp2_with fail
      refine (refHead_is (HKV.out _ HW.out.1).2.2.1 HLA.out.1 HLA.out.2.2.1 D HD.out.1).mono ?_
      rintro e W1 ⟨rfl, hb1⟩
      have H1 : Hid (Below w.heap.size w W1) := below_tr HW.out.1 hb1
      clear hb1
      obtain ⟨g, hg⟩ : ∃ g, W1.heap.size = g := ⟨_, rfl⟩
      have HG : Hid (W1.heap.size = g ∧ w.heap.size ≤ g) := ⟨hg, by have := H1.out.size; omega⟩
      go_wp2_with (with_reducible change wpList _ _ _ ({ dst := none, op := Op.store 35 _ _, type := _, pos := _, after := _, guard := _ } :: _) _ _; refine Hid.out ?_)
      show wpList _ _ _ _ _ _
      refine wpList_store_blk rfl 35 (.tmp 8) (.tmp 44) rfl g 0 35 Y (U D) rfl rfl (by rw [← HG.out.1]; exact Blk.new W1 _ _) (by rw [HY.out, zb_is, U_length, U_length, HD.out.2.1, List.length_replicate]; exact Nat.le_refl _) (by rw [U_length, HD.out.2.1]; exact size35) (U_one _) ?_
      intro W2 hx2 hg2
      have H2 : Hid (Below w.heap.size w W2 ∧ Blk W2 g 35 (U D)) := ⟨below_gr (below_tr H1.out (below_al _ _)) hg2.out HG.out.2, blk_all hx2.out (by rw [HY.out, zb_is, U_length, U_length, HD.out.2.1, List.length_replicate])⟩
      have HH : Hid (∀ V, Below W2.heap.size W2 V → Below w.heap.size w V ∧ Blk V g 35 (U D)) := fun V hV => ⟨below_tr H2.out.1 hV, H2.out.2.below hV H2.out.2.lt⟩
      clear hx2 hg2 hg H1
      obtain ⟨k1, hk1⟩ := vf_some l
      obtain ⟨k2, hk2⟩ := vf_some r
      have HV1 : Hid (VfP l k1 ∧ VfP r k2) := ⟨hk1, hk2⟩
      clear hk1 hk2
      by_cases hA : ∀ i, i < l.length → okAt l i
      · have q1 : k1 < 0 := by have := HV1.out.1.one (vf_ok hA); omega
        have HA : Hid (∀ i, i < l.length → okAt l i) := hA
        clear hA
        go_wp2_with (with_reducible change wpList _ _ _ ({ dst := some 46, op := _, type := _, pos := _, after := _, guard := _ } :: _) _ _; refine Hid.out ?_)
        show wpList _ _ _ _ _ _
        refine wpList_load_mid rfl 35 (.tmp 8) rfl g 0 rfl (U D) _ H2.out.2.range0 Tryd.underlying35 rfl (by rw [U_length, HD.out.2.1]; exact size35) ?_
        go_wp2_with fail
        refine (holds_is (HKV.out _ H2.out.1).2.2.1 HLA.out.2.2.2.2.1 HLA.out.1 (HKV.out _ H2.out.1).1 (HKV.out _ H2.out.1).2.1 HD.out.2.1 true ⟨fun _ => ⟨HA.out, HD.out.1⟩, fun _ => rfl⟩).mono ?_
        rintro e W3 ⟨rfl, hb3⟩
        have H3 : Hid (Below W2.heap.size W2 W3) := hb3
        clear hb3
        go_wp2_with (with_reducible change wpList _ _ _ ({ dst := some 51, op := _, type := _, pos := _, after := _, guard := _ } :: _) _ _; refine Hid.out ?_)
        show wpList _ _ _ _ _ _
        refine wpList_load_want rfl 35 (.tmp 8) rfl g 0 rfl (U D) _ (HH.out _ H3.out).2.range0 Tryd.underlying35 rfl (by rw [U_length, HD.out.2.1]; exact size35) ?_
        by_cases hB : (∀ i, i < r.length → okAt r i) ∧ D2 = D
        · have HB : Hid ((∀ i, i < r.length → okAt r i) ∧ hdE l = hdE r) := ⟨hB.1, by rw [HD.out.1, HD.out.2.2.1, hB.2]⟩
          clear hB
          go_wp2_with fail
          refine (holds_is (HKV.out _ (HH.out _ H3.out).1).2.2.2 HLA.out.2.2.2.2.2 HLA.out.2.1 (HKV.out _ (HH.out _ H3.out).1).1 (HKV.out _ (HH.out _ H3.out).1).2.1 HD.out.2.1 true ⟨fun _ => ⟨HB.out.1, HB.out.2.symm.trans HD.out.1⟩, fun _ => rfl⟩).mono ?_
          rintro e W4 ⟨rfl, hb4⟩
          have H4 : Hid (Below w.heap.size w W4) := below_tr (HH.out _ H3.out).1 hb4
          clear hb4
          by_cases heq : l = r
          · have HQ : Hid (l = r) := heq
            clear heq
            go_wp2_with fail
            refine (same_is (HKV.out _ H4.out).2.2.1 (HKV.out _ H4.out).2.2.2 HLA.out.1 HLA.out.2.1 true ⟨fun _ => HQ.out, fun _ => rfl⟩).mono ?_
            rintro e W5 ⟨rfl, hb5⟩
            have H5 : Hid (Below w.heap.size w W5) := below_tr H4.out hb5
            clear hb5
            go_wp2_with fail
            refine (lives_is W5 (HKV.out _ H5.out).1 (HKV.out _ H5.out).2.1).mono ?_
            rintro e W6 ⟨rfl, hb6⟩
            have HF : Hid (Below w.heap.size w W6) := below_tr H5.out hb6
            clear hb6
            go_wp2
            go_ret
            exact ⟨rfl, HF.out⟩
          · have HQ : Hid (l ≠ r) := heq
            clear heq
            go_wp2_with fail
            refine (same_is (HKV.out _ H4.out).2.2.1 (HKV.out _ H4.out).2.2.2 HLA.out.1 HLA.out.2.1 false ⟨(fun h => nomatch h), fun h => absurd h HQ.out⟩).mono ?_
            rintro e W5 ⟨rfl, hb5⟩
            have H5 : Hid (Below w.heap.size w W5) := below_tr H4.out hb5
            clear hb5
            go_wp2
            go_loopw [9] (fun u wq => ∃ i : Nat, u = iv (i : Int) ∧ i ≤ 101 ∧ Hid (1 ≤ i ∧ i ≤ n + 1 ∧ i ≤ m + 1 ∧ (∀ j, 1 ≤ j → j < i → l[l.length - j]? = r[r.length - j]?) ∧ Below w.heap.size w wq)) (fun u _ => n + 1 - (intOf u).toNat)
            case atStart => exact ⟨1, rfl, by omega, Nat.le_refl _, by omega, by omega, fun j h1 h2 => absurd h2 (by omega), H5.out⟩
            case round =>
              obtain ⟨i, rfl, hi101, HJ⟩ := hrel
              clear H5 H4 H3 H2
              by_cases hin : i ≤ n ∧ i ≤ m
              · have q2 : (i : Int) ≤ (n : Int) := by omega
                have q3 : (i : Int) ≤ (m : Int) := by omega
                obtain ⟨j1, hj1⟩ : ∃ j, n - i = j := ⟨_, rfl⟩
                obtain ⟨j2, hj2⟩ : ∃ j, m - i = j := ⟨_, rfl⟩
                have hi1 := HJ.out.1
                have HJ1 : Hid (IntKind.i64.wrap ((n : Int) - (i : Int)) = (j1 : Int) ∧ IntKind.i64.wrap ((m : Int) - (i : Int)) = (j2 : Int) ∧ (j1 : Int) < (n : Int) ∧ j1 < n ∧ (j2 : Int) < (m : Int) ∧ j2 < m ∧ l.length - i = j1 ∧ r.length - i = j2) := ⟨by rw [IntKind.wrap_i64]; omega, by rw [IntKind.wrap_i64]; omega, by omega, by omega, by omega, by omega, by rw [HE.out.2]; exact hj1, by rw [HE2.out.2]; exact hj2⟩
                obtain ⟨x, hx⟩ : ∃ x, l[j1]? = some x := ⟨_, List.getElem?_eq_getElem (by have := HE.out.2; omega)⟩
                obtain ⟨y, hy⟩ : ∃ y, r[j2]? = some y := ⟨_, List.getElem?_eq_getElem (by have := HE2.out.2; omega)⟩
                obtain ⟨b1, o1, rfl, hb1, hr1⟩ := HRA.out (by omega)
                obtain ⟨b2, o2, rfl, hb2, hr2⟩ := HRB.out (by omega)
                have hbw := HJ.out.2.2.2.2
                have HR : Hid (wr.rangeAt b1 (o1 + j1 * 36) x.cells ∧ wr.rangeAt b2 (o2 + j2 * 36) y.cells ∧ b1 < wr.heap.size ∧ b2 < wr.heap.size) := ⟨rangeAt_same (hr1 j1 x hx) (hbw.block _ hb1), rangeAt_same (hr2 j2 y hy) (hbw.block _ hb2), Nat.lt_of_lt_of_le hb1 hbw.size, Nat.lt_of_lt_of_le hb2 hbw.size⟩
                have hxm := List.mem_of_getElem? hx
                have hym := List.mem_of_getElem? hy
                have HXY : Hid (x.ok ∧ y.ok) := ⟨HE.out.1.1 x hxm, HE2.out.1.1 y hym⟩
                have HXZ : Hid (x.sz ∧ y.sz ∧ i ≤ n ∧ i ≤ m) := ⟨HLA.out.2.2.2.2.1 x hxm, HLA.out.2.2.2.2.2 y hym, hin.1, hin.2⟩
                have HXI : Hid (l[l.length - i]? = some x ∧ r[r.length - i]? = some y) := ⟨by rw [HJ1.out.2.2.2.2.2.2.1]; exact hx, by rw [HJ1.out.2.2.2.2.2.2.2]; exact hy⟩
                clear hin hj1 hj2 hi1 hx hy hb1 hr1 hb2 hr2 hbw hxm hym
                go_wp2_with fail
                refine bd19 HXY HR HJ1.out.1 HJ1.out.2.2.1 HJ1.out.2.2.2.1 HJ1.out.2.1 HJ1.out.2.2.2.2.1 HJ1.out.2.2.2.2.2.1 ?_
                intro V p q hV
                have HT : Hid (TwE wr x y p q V) := hV
                have HTV : Hid (Below w.heap.size w V) := below_tr HJ.out.2.2.2.2 hV.2.2
                clear hV
                by_cases hxy : x = y
                · have hq := fun W => (neE x y HXY.out.1 HXY.out.2 W).trans (by rw [(eqEn_iff x y).2 hxy, Bool.not_true])
                  have HF : Hid (1 ≤ i + 1 ∧ i + 1 ≤ n + 1 ∧ i + 1 ≤ m + 1 ∧ (∀ j, 1 ≤ j → j < i + 1 → l[l.length - j]? = r[r.length - j]?) ∧ Below w.heap.size w V) := ⟨by omega, by have := HXZ.out; omega, by have := HXZ.out; omega, fun j h1 h2 => by
                    by_cases hji : j = i
                    · subst hji
                      rw [HXI.out.1, HXI.out.2, hxy]
                    · exact HJ.out.2.2.2.1 j h1 (by omega), HTV.out⟩
                  have qi : i + 1 ≤ 101 := by have := HXZ.out; omega
                  have HME : Hid (i ≤ n) := HXZ.out.2.2.1
                  clear hxy
                  go_wp2_with (with_reducible change wpList _ _ _ ({ dst := some 102, op := _, type := _, pos := _, after := _, guard := _ } :: _) _ _; refine Hid.out ?_)
                  show wpList _ _ _ _ _ _
                  refine wpList_load_mid rfl 37 (.tmp 10) rfl p 0 rfl x.cells _ HT.out.1.range0 Tryd.underlying37 rfl (info37 HXY.out.1) ?_
                  go_wp2_with (with_reducible change wpList _ _ _ ({ dst := some 103, op := _, type := _, pos := _, after := _, guard := _ } :: _) _ _; refine Hid.out ?_)
                  show wpList _ _ _ _ _ _
                  refine wpList_load_mid rfl 37 (.tmp 11) rfl q 0 rfl y.cells _ HT.out.2.1.range0 Tryd.underlying37 rfl (info37 HXY.out.2) ?_
                  go_wp2
                  go_roundw
                  case rel => exact ⟨i + 1, rfl, qi, HF.out⟩
                  case measure => show n + 1 - (i + 1) < n + 1 - i; have := HME.out; omega
                · have hq := fun W => (neE x y HXY.out.1 HXY.out.2 W).trans (by rw [show eqEn x y = false from by rw [Bool.eq_false_iff]; intro h; exact hxy ((eqEn_iff x y).1 h), Bool.not_false])
                  obtain ⟨G, hG⟩ : ∃ G, dgE x = G := ⟨_, rfl⟩
                  have HDG : Hid (dgE x = G ∧ dgE y = G ∧ G.length = 32) := ⟨hG, by rw [← hG]; exact (bound_dg HA.out HB.out.1 HB.out.2 HJ.out.1 (by have := HXZ.out; have := HE.out.2; omega) (by have := HXZ.out; have := HE2.out.2; omega) HJ.out.2.2.2.1 HXI.out.1 HXI.out.2).symm, by rw [← hG]; exact dgE_len x⟩
                  clear hxy hG
                  go_wp2_with (with_reducible change wpList _ _ _ ({ dst := some 102, op := _, type := _, pos := _, after := _, guard := _ } :: _) _ _; refine Hid.out ?_)
                  show wpList _ _ _ _ _ _
                  refine wpList_load_mid rfl 37 (.tmp 10) rfl p 0 rfl x.cells _ HT.out.1.range0 Tryd.underlying37 rfl (info37 HXY.out.1) ?_
                  go_wp2_with (with_reducible change wpList _ _ _ ({ dst := some 103, op := _, type := _, pos := _, after := _, guard := _ } :: _) _ _; refine Hid.out ?_)
                  show wpList _ _ _ _ _ _
                  refine wpList_load_mid rfl 37 (.tmp 11) rfl q 0 rfl y.cells _ HT.out.2.1.range0 Tryd.underlying37 rfl (info37 HXY.out.2) ?_
                  go_wp2_with fail
                  refine bd21 (D := G) HXY ⟨HT.out.1.range0, HT.out.2.1.range0, HT.out.1.lt, HT.out.2.1.lt⟩ (fun V2 hV2 => digest_is x HXY.out.1 HXZ.out.1 G HDG.out.1 V2 (HKV.out _ (below_tr HTV.out hV2)).1 (HKV.out _ (below_tr HTV.out hV2)).2.1) (fun V2 hV2 => digest_is y HXY.out.2 HXZ.out.2.1 G HDG.out.2.1 V2 (HKV.out _ (below_tr HTV.out hV2)).1 (HKV.out _ (below_tr HTV.out hV2)).2.1) (fun W => (eqHb G G HDG.out.2.2 HDG.out.2.2 W).trans (by rw [decide_eq_true rfl])) (fun V2 hV2 => lives_is V2 (HKV.out _ (below_tr HTV.out hV2)).1 (HKV.out _ (below_tr HTV.out hV2)).2.1) ?_
                  intro V2 hV2
                  have HV : Hid (Below w.heap.size w V2) := below_tr HTV.out hV2
                  clear hV2
                  go_wp2
                  go_ret
                  exact ⟨rfl, HV.out⟩
              · have HN : Hid (n = 0 ∨ m = 0) := by
                  have := bound_end HA.out HB.out.1 HQ.out HJ.out.2.2.2.1 (by have := HJ.out; have := HE.out.2; have := HE2.out.2; omega) (by have := HJ.out; have := HE.out.2; have := HE2.out.2; omega)
                  rw [HE.out.2, HE2.out.2] at this
                  exact this
                have HJ2 : Hid (Below w.heap.size w wr ∧ 1 ≤ i) := ⟨HJ.out.2.2.2.2, HJ.out.1⟩
                clear HJ
                by_cases hn0 : n = 0
                · subst hn0
                  have q2 : ¬ ((i : Int) ≤ 0) := by have := HJ2.out.2; omega
                  clear hin
                  go_wp2_with fail
                  refine (lives_is wr (HKV.out _ HJ2.out.1).1 (HKV.out _ HJ2.out.1).2.1).mono ?_
                  rintro e W6 ⟨rfl, hb6⟩
                  have HF : Hid (Below w.heap.size w W6) := below_tr HJ2.out.1 hb6
                  clear hb6
                  go_wp2
                  go_ret
                  exact ⟨rfl, HF.out⟩
                · have hm0 : m = 0 := by rcases HN.out with h | h <;> omega
                  subst hm0
                  have q3 : ¬ ((i : Int) ≤ 0) := by have := HJ2.out.2; omega
                  have q4 : ¬ ((n : Int) = 0) := by omega
                  clear hin hn0
                  by_cases q2 : (i : Int) ≤ (n : Int)
                  all_goals
                    go_wp2_with fail
                    refine (lives_is wr (HKV.out _ HJ2.out.1).1 (HKV.out _ HJ2.out.1).2.1).mono ?_
                    rintro e W6 ⟨rfl, hb6⟩
                    have HF : Hid (Below w.heap.size w W6) := below_tr HJ2.out.1 hb6
                    clear hb6
                    go_wp2
                    go_ret
                    exact ⟨rfl, HF.out⟩
        · have HB : Hid (¬ ((∀ i, i < r.length → okAt r i) ∧ D2 = D)) := hB
          clear hB
          go_wp2_with fail
          refine (holds_is (HKV.out _ (HH.out _ H3.out).1).2.2.2 HLA.out.2.2.2.2.2 HLA.out.2.1 (HKV.out _ (HH.out _ H3.out).1).1 (HKV.out _ (HH.out _ H3.out).1).2.1 HD.out.2.1 false ⟨(fun h => nomatch h), fun h => absurd ⟨h.1, HD.out.2.2.1.symm.trans h.2⟩ HB.out⟩).mono ?_
          rintro e W4 ⟨rfl, hb4⟩
          have H4 : Hid (Below W2.heap.size W2 W4) := below_tr H3.out hb4
          have H5 : Hid (∀ V, Below W4.heap.size W4 V → Below w.heap.size w V) := fun V hV => (HH.out _ (below_tr H4.out hV)).1
          clear hb4
          by_cases hC : ∀ i, i < r.length → okAt r i
          · have q2 : k2 < 0 := by have := HV1.out.2.one (vf_ok hC); omega
            have HN : Hid (D ≠ D2) := fun h => HB.out ⟨hC, h.symm⟩
            clear hC
            go_wp2_with fail
            refine bd13c (D := D) (D2 := D2) ⟨(HH.out _ H4.out).2.range0, (HH.out _ H4.out).2.lt⟩ HD.out.2.1 (fun V hV => verify_k HV1.out.1 (HKV.out _ (H5.out V hV)).2.2.1 HLA.out.2.2.2.2.1 HLA.out.1 (HKV.out _ (H5.out V hV)).1 (HKV.out _ (H5.out V hV)).2.1) (fun V hV => verify_k HV1.out.2 (HKV.out _ (H5.out V hV)).2.2.2 HLA.out.2.2.2.2.2 HLA.out.2.1 (HKV.out _ (H5.out V hV)).1 (HKV.out _ (H5.out V hV)).2.1) (fun V hV => refHead_is (HKV.out _ (H5.out V hV)).2.2.2 HLA.out.2.1 HLA.out.2.2.2.1 D2 HD.out.2.2.1) (fun W => (neHb D D2 HD.out.2.1 HD.out.2.2.2 W).trans (by rw [decide_eq_false HN.out]; rfl)) (fun V hV => lives_is V (HKV.out _ (H5.out V hV)).1 (HKV.out _ (H5.out V hV)).2.1) q1 q2 ?_
            intro V hV
            have HV : Hid (Below w.heap.size w V) := H5.out V hV
            clear hV
            go_wp2
            go_ret
            exact ⟨rfl, HV.out⟩
          · have q2 : 0 ≤ k2 := by
              rcases HV1.out.2 with ⟨_, hh⟩ | ⟨p2, rfl, _⟩
              · exact absurd hh hC
              · omega
            clear hC
            go_wp2_with fail
            refine bd13b (fun V hV => verify_k HV1.out.1 (HKV.out _ (H5.out V hV)).2.2.1 HLA.out.2.2.2.2.1 HLA.out.1 (HKV.out _ (H5.out V hV)).1 (HKV.out _ (H5.out V hV)).2.1) (fun V hV => verify_k HV1.out.2 (HKV.out _ (H5.out V hV)).2.2.2 HLA.out.2.2.2.2.2 HLA.out.2.1 (HKV.out _ (H5.out V hV)).1 (HKV.out _ (H5.out V hV)).2.1) (fun V hV => lives_is V (HKV.out _ (H5.out V hV)).1 (HKV.out _ (H5.out V hV)).2.1) q1 q2 ?_
            intro V hV
            have HV : Hid (Below w.heap.size w V) := H5.out V hV
            clear hV
            go_wp2
            go_ret
            exact ⟨rfl, HV.out⟩
      · have q1 : 0 ≤ k1 := by
          rcases HV1.out.1 with ⟨_, hh⟩ | ⟨p2, rfl, _⟩
          · exact absurd hh hA
          · omega
        have HA : Hid (¬ ∀ i, i < l.length → okAt l i) := hA
        clear hA
        go_wp2_with (with_reducible change wpList _ _ _ ({ dst := some 46, op := _, type := _, pos := _, after := _, guard := _ } :: _) _ _; refine Hid.out ?_)
        show wpList _ _ _ _ _ _
        refine wpList_load_mid rfl 35 (.tmp 8) rfl g 0 rfl (U D) _ H2.out.2.range0 Tryd.underlying35 rfl (by rw [U_length, HD.out.2.1]; exact size35) ?_
        go_wp2_with fail
        refine (holds_is (HKV.out _ H2.out.1).2.2.1 HLA.out.2.2.2.2.1 HLA.out.1 (HKV.out _ H2.out.1).1 (HKV.out _ H2.out.1).2.1 HD.out.2.1 false ⟨(fun h => nomatch h), fun h => absurd h.1 HA.out⟩).mono ?_
        rintro e W4 ⟨rfl, hb4⟩
        have H5 : Hid (∀ V, Below W4.heap.size W4 V → Below w.heap.size w V) := fun V hV => below_tr H2.out.1 (below_tr hb4 hV)
        clear hb4
        go_wp2_with fail
        refine bd13a (k2 := 0) (fun V hV => verify_k HV1.out.1 (HKV.out _ (H5.out V hV)).2.2.1 HLA.out.2.2.2.2.1 HLA.out.1 (HKV.out _ (H5.out V hV)).1 (HKV.out _ (H5.out V hV)).2.1) (fun V hV => lives_is V (HKV.out _ (H5.out V hV)).1 (HKV.out _ (H5.out V hV)).2.1) q1 ?_
        intro V hV
        have HV : Hid (Below w.heap.size w V) := H5.out V hV
        clear hV
        go_wp2
        go_ret
        exact ⟨rfl, HV.out⟩
    · have hlt : i < t := by have := HI.out.1; omega
      have q1 : (i : Int) < (t : Int) := by omega
      obtain ⟨x, hx⟩ : ∃ x, (l ++ r)[i]? = some x := ⟨_, List.getElem?_eq_getElem (by have := HX2.out.2.1; omega)⟩
      obtain ⟨b1, off, rfl, hb1, hel⟩ := HX2.out.2.2.1 (by omega)
      have hok := HX2.out.2.2.2 x (List.mem_of_getElem? hx)
      have HX : Hid (wr.rangeAt b1 (off + i * 36) x.cells ∧ i < t ∧ (l ++ r)[i]? = some x ∧ x.ok) := ⟨rangeAt_same (hel i x hx) (HI.out.2.2.block _ hb1), hlt, hx, hok⟩
      obtain ⟨g5, hg5⟩ : ∃ g, wr.heap.size = g := ⟨_, rfl⟩
      have HG5 : Hid (wr.heap.size = g5 ∧ X2.heap.size ≤ g5) := ⟨hg5, by have := HI.out.2.2.size; omega⟩
      have qw : (x.who.size : Int) ≤ 140737488355328 := by have := hok.2.2.2.1; omega
      have qa : (x.what.size : Int) ≤ 140737488355328 := by have := hok.2.2.2.2; omega
      have qs : (s : Int) ≤ 100000 := by omega
      clear hi hlt hx hel hb1 hok
      go_wp2_with (with_reducible change wpList _ _ _ ({ dst := some 29, op := _, type := _, pos := _, after := _, guard := _ } :: _) _ _; refine Hid.out ?_)
      show wpList _ _ _ _ _ _
      refine wpList_load_mid rfl 37 (.tmp 28) rfl b1 (off + i * 36) rfl x.cells _ HX.out.1 Tryd.underlying37 rfl (info37 HX.out.2.2.2) ?_
      go_wp2_with (with_reducible change wpList _ _ _ ({ dst := none, op := Op.store 37 _ _, type := _, pos := _, after := _, guard := _ } :: _) _ _; refine Hid.out ?_)
      show wpList _ _ _ _ _ _
      refine wpList_store_blk rfl 37 (.tmp 7) (.tmp 29) rfl g5 0 37 Z x.cells rfl rfl (by rw [← HG5.out.1]; exact Blk.new wr _ _) (by rw [HZ.out, En.len zE_ok, En.len HX.out.2.2.2]; exact Nat.le_refl _) (info37 HX.out.2.2.2) x.one ?_
      intro W1 hx1 hg1
      have H1 : Hid (Below X2.heap.size X2 W1 ∧ Blk W1 g5 37 x.cells) := ⟨below_gr (below_tr HI.out.2.2 (below_al _ _)) hg1.out HG5.out.2, blk_all hx1.out (by rw [HZ.out, En.len zE_ok, En.len HX.out.2.2.2])⟩
      have c1 : W1.cell? ⟨g5, 2, none⟩ = some (.string x.who) := H1.out.2.cell rfl
      have c2 : W1.cell? ⟨g5, 3, none⟩ = some (.string x.what) := H1.out.2.cell rfl
      clear hx1 hg1 hg5
      by_cases hb : s + (x.who.size + x.what.size) ≤ 100000
      · have q3 : (s : Int) + ((x.who.size : Int) + (x.what.size : Int)) ≤ 100000 := by omega
        have HF : Hid (i + 1 ≤ t ∧ (∀ j e, j < i + 1 → (l ++ r)[j]? = some e → e.who.size + e.what.size ≤ s + (x.who.size + x.what.size)) ∧ Below X2.heap.size X2 W1) := by
          refine ⟨HX.out.2.1, fun j e hj he => ?_, H1.out.1⟩
          by_cases ej : j = i
          · subst ej
            rw [HX.out.2.2.1] at he
            cases he
            omega
          · have := HI.out.2.1 j e (by omega) he; omega
        go_wp2
        go_roundw
        case rel => exact ⟨i + 1, s + (x.who.size + x.what.size), by simp, by simp, hb, HF.out⟩
        case measure =>
          have := HX.out.2.1
          simp only [intOf]
          omega
      · have q3 : 100000 < (s : Int) + ((x.who.size : Int) + (x.what.size : Int)) := by omega
        clear hb
        go_wp2_with fail
        refine (lives_is W1 (HK.out.1.below (below_tr HX2.out.1 H1.out.1)) (HK.out.2.below (below_tr HX2.out.1 H1.out.1))).mono ?_
        rintro e X3 ⟨rfl, hb2⟩
        have HF : Hid (Below w.heap.size w X3) := below_tr (below_tr HX2.out.1 H1.out.1) hb2
        clear hb2
        go_wp2
        go_ret
        exact ⟨rfl, HF.out⟩
end Go.Proofs.YtmmpafaegmejlaaDoor.Oct
