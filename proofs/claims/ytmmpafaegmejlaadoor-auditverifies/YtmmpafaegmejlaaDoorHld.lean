/-
  Layer 19 (audit): Holds.
-/
import Derived.Test.YtmmpafaegmejlaaDoorApp
namespace Go.Proofs.YtmmpafaegmejlaaDoor.Oct
open Go.RowKit Sha
set_option linter.unusedSimpArgs false
set_option linter.unusedVariables false

theorem vf_some (l : List En) : ∃ k, VfP l k := by
  by_cases h : ∀ i, i < l.length → okAt l i
  · exact ⟨-1, .inl ⟨rfl, h⟩⟩
  · have h1 : ∃ i, i < l.length ∧ ¬ okAt l i := Classical.byContradiction fun hn => h fun i hi => Classical.byContradiction fun hk => hn ⟨i, hi, hk⟩
    have : ∀ n : Nat, ∀ i, i ≤ n → i < l.length → ¬ okAt l i → ∃ j, j < l.length ∧ ¬ okAt l j ∧ ∀ m, m < j → okAt l m := by
      intro n
      induction n with
      | zero =>
        intro i h0 h1 h2
        obtain rfl : i = 0 := by omega
        exact ⟨0, h1, h2, fun m hm => absurd hm (by omega)⟩
      | succ n ih =>
        intro i h0 h1 h2
        by_cases h3 : ∃ m, m < i ∧ ¬ okAt l m
        · obtain ⟨m, hm, hm2⟩ := h3
          exact ih m (by omega) (by omega) hm2
        · exact ⟨i, h1, h2, fun m hm => Classical.byContradiction fun hk => h3 ⟨m, hm, hk⟩⟩
    obtain ⟨i, hi, hi2⟩ := h1
    obtain ⟨j, hj1, hj2, hj3⟩ := this i i (Nat.le_refl _) hi hi2
    exact ⟨j, .inr ⟨j, rfl, hj1, hj2, hj3⟩⟩
theorem verify_k {w : World} {v : Value} {l : List En} {k : Int} (hv : VfP l k) (h : EsR w v l) (hz : ∀ e ∈ l, e.sz) (hl : l.length ≤ 1000000) (hk : KT w) (hs : ST w) : Calls Tryd.prog 23 #[v] w fun e w' => e = .returned (iv k) ∧ Below w.heap.size w w' :=
  (verify_is h hz hl hk hs).mono (by
    rintro e w' ⟨k', rfl, h1, h2⟩
    exact ⟨by rw [h1.out.one hv], h2⟩)
theorem yl_eq35 {o : Oper} {a : Act} (V : World) (p q : Operand) (x y : Array Value) (E : Bool) (hop : o.op = .binOp .eql 35 p q 35) (hx : a.eval p = .agg x) (hy : a.eval q = .agg y) (h : ∀ W, (binOp .eql 35 (.agg x) (.agg y)).run Tryd.prog W = .ok (.bool E) W) : (execOp a.eval o).run Tryd.prog V = .ok (.value (.bool E)) V := by
  unfold execOp
  simp only [hop, hx, hy, Sem.run_bind, Sem.run_pure]
  have hg : (eqGuard BinOp.eql 35 p q (.agg x) (.agg y)).run Tryd.prog V = .ok () V := run_eqGuard_agg V .eql 35 p q x y (by kernel_rfl)
  rw [hg]
  simp only [Result.andThen_ok, h]
theorem below_drew0 (A : World) : Below A.heap.size A A.drew := ⟨rfl, rfl, rfl, Nat.le_refl _, fun _ _ => rfl⟩
set_option maxRecDepth 100000 in
set_option maxHeartbeats 4000000 in
theorem hd2y {Q : Exit → Act → World → Prop} {x1 x2 x4 x6 x7 x8 x9 x10 x11 x12 x13 x14 x15 : Value} {ds : List Deferred} {A : World} {h c : Nat} {sv : Value} {k : Int} {D Dh : List UInt8} {E : Bool}
    (HH : Hid (Blk A h 35 (U Dh) ∧ Dh.length = 32)) (HV : Hid (∀ V, Below A.heap.size A V → Calls Tryd.prog 23 #[sv] V fun e V2 => e = .returned (iv k) ∧ Below V.heap.size V V2)) (HHD : Hid (∀ V, Below A.heap.size A V → Calls Tryd.prog 37 #[.pointer (some ⟨c, 0, none⟩)] V fun e V2 => e = .returned (.agg (U D).toArray) ∧ Below V.heap.size V V2)) (HE : Hid (∀ W, (binOp .eql 35 (.agg (U D).toArray) (.agg (U Dh).toArray)).run Tryd.prog W = .ok (.bool E) W)) (hk : k < 0)
    (hQ : ∀ V1, Below A.heap.size A V1 → Q .normal { tmps := #[sv, x1, x2, .pointer (some ⟨h, 0, none⟩), .bool E, .pointer (some ⟨c, 0, none⟩), x6, x7, sv, iv k, .bool true, .bool true, .agg (U D).toArray, .agg (U Dh).toArray, .bool E, .bool E], defers := ds } V1) :
    (Code.region 2 #[{ dst := some 8, op := Op.move (Operand.tmp 0), type := 27, pos := "audit.go:81", after := #[], guard := none }, { dst := some 9, op := Op.call { callee := Callee.value (Operand.func 23), args := #[Operand.tmp 8], argTypes := #[27] }, type := 3, pos := "audit.go:81", after := #[{ on := 0, ground := Ground.data }], guard := none }, { dst := some 10, op := Op.binOp BinOp.lss 3 (Operand.tmp 9) (Operand.const (Value.int IntKind.i64 0)) 3, type := 4, pos := "audit.go:81", after := #[{ on := 1, ground := Ground.data }], guard := none }, { dst := some 11, op := Op.move (Operand.tmp 10), type := 4, pos := "audit.go:81", after := #[{ on := 2, ground := Ground.data }, { on := 1, ground := Ground.chain }], guard := none }, { dst := some 12, op := Op.call { callee := Callee.value (Operand.func 37), args := #[Operand.tmp 5], argTypes := #[58] }, type := 35, pos := "audit.go:81", after := #[{ on := 3, ground := Ground.chain }, { on := 3, ground := Ground.guard }], guard := some (3, true) }, { dst := some 13, op := Op.load 35 (Operand.tmp 3), type := 35, pos := "audit.go:81", after := #[{ on := 3, ground := Ground.guard }], guard := some (3, true) }, { dst := some 14, op := Op.binOp BinOp.eql 35 (Operand.tmp 12) (Operand.tmp 13) 35, type := 4, pos := "audit.go:81", after := #[{ on := 4, ground := Ground.data }, { on := 5, ground := Ground.data }, { on := 3, ground := Ground.guard }], guard := some (3, true) }, { dst := some 15, op := Op.pick (Operand.tmp 11) (Operand.tmp 14) (Operand.const (Value.bool false)), type := 4, pos := "audit.go:81", after := #[{ on := 3, ground := Ground.data }, { on := 6, ground := Ground.data }], guard := none }, { dst := some 4, op := Op.assign (Operand.tmp 15), type := 4, pos := "audit.go:81", after := #[{ on := 7, ground := Ground.data }, { on := 4, ground := Ground.chain }, { on := 0, ground := Ground.phase }, { on := 1, ground := Ground.phase }, { on := 2, ground := Ground.phase }, { on := 3, ground := Ground.phase }, { on := 4, ground := Ground.phase }, { on := 5, ground := Ground.phase }, { on := 6, ground := Ground.phase }, { on := 7, ground := Ground.phase }], guard := none }] true).wp Tryd.prog Q { tmps := #[sv, x1, x2, .pointer (some ⟨h, 0, none⟩), x4, .pointer (some ⟨c, 0, none⟩), x6, x7, x8, x9, x10, x11, x12, x13, x14, x15], defers := ds } A := by
  refine Code.wp_mono (Q := fun x a' w' => match x with | .normal => Q .normal a' w' | _ => False) (by intro x a' w' h; cases x <;> first | exact h | exact h.elim) ?_
  refine wp_region_held (S := fun V => Below A.heap.size A V) (by kernel_rfl) ?_
  have hS0 : Hid (Below A.heap.size A A.drew) := below_drew0 A
  change wpAnyH Tryd.prog .any _ _ (fun V => Below A.heap.size A V) 9 (Array.replicate 9 false) _ A.drew
  obtain ⟨V0, hV0⟩ : ∃ V0, A.drew = V0 := ⟨_, rfl⟩
  rw [hV0]
  rw [hV0] at hS0
  clear hV0
  refine wpAnyH_take (i := 0) (oi := { dst := some 8, op := Op.move (Operand.tmp 0), type := 27, pos := "audit.go:81", after := #[], guard := none }) (v := sv) rfl (by kernel_rfl) (by kernel_rfl) (by kernel_rfl) (fun _ _ _ h => h.elim) (Or.inl ⟨by rfl, ?y1⟩) hS0.out ?_
  case y1 =>
    intro V hV
    go_simp
  simp only [Act.put, List.setIfInBounds_toArray, List.set_cons_zero, List.set_cons_succ]
  refine wpAnyH_ready (rs := [1]) (by kernel_rfl) (by simp) (AllReadyH.cons (i := 1) (o := { dst := some 9, op := Op.call { callee := Callee.value (Operand.func 23), args := #[Operand.tmp 8], argTypes := #[27] }, type := 3, pos := "audit.go:81", after := #[{ on := 0, ground := Ground.data }], guard := none }) rfl ?_ AllReadyH.nil)
  · intro K1 hK1
    rw [if_pos (by rfl)]
    have HC1 := HV.out V0 hS0.out
    go_wp2_with fail
    refine HC1.mono ?_
    rintro e V1 ⟨rfl, hb1⟩
    dsimp only
    clear HC1
    have hS1 : Hid (Below A.heap.size A V1) := hS0.out.trans (hb1.mono hS0.out.size)
    clear hb1
    refine hK1.out _ _ hS1.out ?_
    clear hK1
    intro _
    try simp only [Act.put, List.setIfInBounds_toArray, List.set_cons_zero, List.set_cons_succ]
    refine wpAnyH_take (i := 2) (oi := { dst := some 10, op := Op.binOp BinOp.lss 3 (Operand.tmp 9) (Operand.const (Value.int IntKind.i64 0)) 3, type := 4, pos := "audit.go:81", after := #[{ on := 1, ground := Ground.data }], guard := none }) (v := .bool true) rfl (by kernel_rfl) (by kernel_rfl) (by kernel_rfl) (fun _ _ _ h => h.elim) (Or.inl ⟨by rfl, ?y2⟩) hS1.out ?_
    case y2 =>
      intro V hV
      have q1 := hk
      go_simp
    simp only [Act.put, List.setIfInBounds_toArray, List.set_cons_zero, List.set_cons_succ]
    refine wpAnyH_take (i := 3) (oi := { dst := some 11, op := Op.move (Operand.tmp 10), type := 4, pos := "audit.go:81", after := #[{ on := 2, ground := Ground.data }, { on := 1, ground := Ground.chain }], guard := none }) (v := .bool true) rfl (by kernel_rfl) (by kernel_rfl) (by kernel_rfl) (fun _ _ _ h => h.elim) (Or.inl ⟨by rfl, ?y3⟩) hS1.out ?_
    case y3 =>
      intro V hV
      go_simp
    simp only [Act.put, List.setIfInBounds_toArray, List.set_cons_zero, List.set_cons_succ]
    refine wpAnyH_take (i := 5) (oi := { dst := some 13, op := Op.load 35 (Operand.tmp 3), type := 35, pos := "audit.go:81", after := #[{ on := 3, ground := Ground.guard }], guard := some (3, true) }) (v := .agg (U Dh).toArray) rfl (by kernel_rfl) (by kernel_rfl) (by kernel_rfl) (fun _ _ _ h => h.elim) (yieldsIf_load_mid (by rfl) _ _ rfl _ _ rfl (U Dh) _ (fun V hV => rangeAt_same (HH.out.1.range0) ((show Below A.heap.size A V from hV).block _ (HH.out.1.lt))) Tryd.underlying35 rfl ((by rw [U_length, HH.out.2]; exact size35))) hS1.out ?_
    simp only [Act.put, List.setIfInBounds_toArray, List.set_cons_zero, List.set_cons_succ]
    refine wpAnyH_ready (rs := [4]) (by kernel_rfl) (by simp) (AllReadyH.cons (i := 4) (o := { dst := some 12, op := Op.call { callee := Callee.value (Operand.func 37), args := #[Operand.tmp 5], argTypes := #[58] }, type := 35, pos := "audit.go:81", after := #[{ on := 3, ground := Ground.chain }, { on := 3, ground := Ground.guard }], guard := some (3, true) }) rfl ?_ AllReadyH.nil)
    · intro K1 hK1
      rw [if_pos (by rfl)]
      have HC2 := HHD.out V1 hS1.out
      go_wp2_with fail
      refine HC2.mono ?_
      rintro e V2 ⟨rfl, hb2⟩
      dsimp only
      clear HC2
      have hS2 : Hid (Below A.heap.size A V2) := hS1.out.trans (hb2.mono hS1.out.size)
      clear hb2
      refine hK1.out _ _ hS2.out ?_
      clear hK1
      intro _
      try simp only [Act.put, List.setIfInBounds_toArray, List.set_cons_zero, List.set_cons_succ]
      refine wpAnyH_take (i := 6) (oi := { dst := some 14, op := Op.binOp BinOp.eql 35 (Operand.tmp 12) (Operand.tmp 13) 35, type := 4, pos := "audit.go:81", after := #[{ on := 4, ground := Ground.data }, { on := 5, ground := Ground.data }, { on := 3, ground := Ground.guard }], guard := some (3, true) }) (v := .bool E) rfl (by kernel_rfl) (by kernel_rfl) (by kernel_rfl) (fun _ _ _ h => h.elim) (Or.inl ⟨by rfl, ?y4⟩) hS2.out ?_
      case y4 =>
        intro V hV
        exact yl_eq35 V _ _ _ _ _ rfl rfl rfl HE.out
      simp only [Act.put, List.setIfInBounds_toArray, List.set_cons_zero, List.set_cons_succ]
      refine wpAnyH_take (i := 7) (oi := { dst := some 15, op := Op.pick (Operand.tmp 11) (Operand.tmp 14) (Operand.const (Value.bool false)), type := 4, pos := "audit.go:81", after := #[{ on := 3, ground := Ground.data }, { on := 6, ground := Ground.data }], guard := none }) (v := .bool E) rfl (by kernel_rfl) (by kernel_rfl) (by kernel_rfl) (fun _ _ _ h => h.elim) (Or.inl ⟨by rfl, ?y5⟩) hS2.out ?_
      case y5 =>
        intro V hV
        go_simp
      simp only [Act.put, List.setIfInBounds_toArray, List.set_cons_zero, List.set_cons_succ]
      refine wpAnyH_take (i := 8) (oi := { dst := some 4, op := Op.assign (Operand.tmp 15), type := 4, pos := "audit.go:81", after := #[{ on := 7, ground := Ground.data }, { on := 4, ground := Ground.chain }, { on := 0, ground := Ground.phase }, { on := 1, ground := Ground.phase }, { on := 2, ground := Ground.phase }, { on := 3, ground := Ground.phase }, { on := 4, ground := Ground.phase }, { on := 5, ground := Ground.phase }, { on := 6, ground := Ground.phase }, { on := 7, ground := Ground.phase }], guard := none }) (v := .bool E) rfl (by kernel_rfl) (by kernel_rfl) (by kernel_rfl) (fun _ _ _ h => h.elim) (Or.inl ⟨by rfl, ?y6⟩) hS2.out ?_
      case y6 =>
        intro V hV
        go_simp
      simp only [Act.put, List.setIfInBounds_toArray, List.set_cons_zero, List.set_cons_succ]
      refine wpAnyH_done (by kernel_rfl) ?_ _
      exact hQ V2 hS2.out
#print axioms hd2y
set_option maxRecDepth 100000 in
set_option maxHeartbeats 4000000 in
theorem hd2n {Q : Exit → Act → World → Prop} {x1 x2 x4 x6 x7 x8 x9 x10 x11 x12 x13 x14 x15 : Value} {ds : List Deferred} {A : World} {h c : Nat} {sv : Value} {k : Int}
    (HV : Hid (∀ V, Below A.heap.size A V → Calls Tryd.prog 23 #[sv] V fun e V2 => e = .returned (iv k) ∧ Below V.heap.size V V2)) (hk : 0 ≤ k)
    (hQ : ∀ V1, Below A.heap.size A V1 → Q .normal { tmps := #[sv, x1, x2, .pointer (some ⟨h, 0, none⟩), .bool false, .pointer (some ⟨c, 0, none⟩), x6, x7, sv, iv k, .bool false, .bool false, undef, undef, undef, .bool false], defers := ds } V1) :
    (Code.region 2 #[{ dst := some 8, op := Op.move (Operand.tmp 0), type := 27, pos := "audit.go:81", after := #[], guard := none }, { dst := some 9, op := Op.call { callee := Callee.value (Operand.func 23), args := #[Operand.tmp 8], argTypes := #[27] }, type := 3, pos := "audit.go:81", after := #[{ on := 0, ground := Ground.data }], guard := none }, { dst := some 10, op := Op.binOp BinOp.lss 3 (Operand.tmp 9) (Operand.const (Value.int IntKind.i64 0)) 3, type := 4, pos := "audit.go:81", after := #[{ on := 1, ground := Ground.data }], guard := none }, { dst := some 11, op := Op.move (Operand.tmp 10), type := 4, pos := "audit.go:81", after := #[{ on := 2, ground := Ground.data }, { on := 1, ground := Ground.chain }], guard := none }, { dst := some 12, op := Op.call { callee := Callee.value (Operand.func 37), args := #[Operand.tmp 5], argTypes := #[58] }, type := 35, pos := "audit.go:81", after := #[{ on := 3, ground := Ground.chain }, { on := 3, ground := Ground.guard }], guard := some (3, true) }, { dst := some 13, op := Op.load 35 (Operand.tmp 3), type := 35, pos := "audit.go:81", after := #[{ on := 3, ground := Ground.guard }], guard := some (3, true) }, { dst := some 14, op := Op.binOp BinOp.eql 35 (Operand.tmp 12) (Operand.tmp 13) 35, type := 4, pos := "audit.go:81", after := #[{ on := 4, ground := Ground.data }, { on := 5, ground := Ground.data }, { on := 3, ground := Ground.guard }], guard := some (3, true) }, { dst := some 15, op := Op.pick (Operand.tmp 11) (Operand.tmp 14) (Operand.const (Value.bool false)), type := 4, pos := "audit.go:81", after := #[{ on := 3, ground := Ground.data }, { on := 6, ground := Ground.data }], guard := none }, { dst := some 4, op := Op.assign (Operand.tmp 15), type := 4, pos := "audit.go:81", after := #[{ on := 7, ground := Ground.data }, { on := 4, ground := Ground.chain }, { on := 0, ground := Ground.phase }, { on := 1, ground := Ground.phase }, { on := 2, ground := Ground.phase }, { on := 3, ground := Ground.phase }, { on := 4, ground := Ground.phase }, { on := 5, ground := Ground.phase }, { on := 6, ground := Ground.phase }, { on := 7, ground := Ground.phase }], guard := none }] true).wp Tryd.prog Q { tmps := #[sv, x1, x2, .pointer (some ⟨h, 0, none⟩), x4, .pointer (some ⟨c, 0, none⟩), x6, x7, x8, x9, x10, x11, x12, x13, x14, x15], defers := ds } A := by
  refine Code.wp_mono (Q := fun x a' w' => match x with | .normal => Q .normal a' w' | _ => False) (by intro x a' w' h; cases x <;> first | exact h | exact h.elim) ?_
  refine wp_region_held (S := fun V => Below A.heap.size A V) (by kernel_rfl) ?_
  have hS0 : Hid (Below A.heap.size A A.drew) := below_drew0 A
  change wpAnyH Tryd.prog .any _ _ (fun V => Below A.heap.size A V) 9 (Array.replicate 9 false) _ A.drew
  obtain ⟨V0, hV0⟩ : ∃ V0, A.drew = V0 := ⟨_, rfl⟩
  rw [hV0]
  rw [hV0] at hS0
  clear hV0
  refine wpAnyH_take (i := 0) (oi := { dst := some 8, op := Op.move (Operand.tmp 0), type := 27, pos := "audit.go:81", after := #[], guard := none }) (v := sv) rfl (by kernel_rfl) (by kernel_rfl) (by kernel_rfl) (fun _ _ _ h => h.elim) (Or.inl ⟨by rfl, ?y1⟩) hS0.out ?_
  case y1 =>
    intro V hV
    go_simp
  simp only [Act.put, List.setIfInBounds_toArray, List.set_cons_zero, List.set_cons_succ]
  refine wpAnyH_ready (rs := [1]) (by kernel_rfl) (by simp) (AllReadyH.cons (i := 1) (o := { dst := some 9, op := Op.call { callee := Callee.value (Operand.func 23), args := #[Operand.tmp 8], argTypes := #[27] }, type := 3, pos := "audit.go:81", after := #[{ on := 0, ground := Ground.data }], guard := none }) rfl ?_ AllReadyH.nil)
  · intro K1 hK1
    rw [if_pos (by rfl)]
    have HC1 := HV.out V0 hS0.out
    go_wp2_with fail
    refine HC1.mono ?_
    rintro e V1 ⟨rfl, hb1⟩
    dsimp only
    clear HC1
    have hS1 : Hid (Below A.heap.size A V1) := hS0.out.trans (hb1.mono hS0.out.size)
    clear hb1
    refine hK1.out _ _ hS1.out ?_
    clear hK1
    intro _
    try simp only [Act.put, List.setIfInBounds_toArray, List.set_cons_zero, List.set_cons_succ]
    refine wpAnyH_take (i := 2) (oi := { dst := some 10, op := Op.binOp BinOp.lss 3 (Operand.tmp 9) (Operand.const (Value.int IntKind.i64 0)) 3, type := 4, pos := "audit.go:81", after := #[{ on := 1, ground := Ground.data }], guard := none }) (v := .bool false) rfl (by kernel_rfl) (by kernel_rfl) (by kernel_rfl) (fun _ _ _ h => h.elim) (Or.inl ⟨by rfl, ?y2⟩) hS1.out ?_
    case y2 =>
      intro V hV
      have q1 := hk
      go_simp
    simp only [Act.put, List.setIfInBounds_toArray, List.set_cons_zero, List.set_cons_succ]
    refine wpAnyH_take (i := 3) (oi := { dst := some 11, op := Op.move (Operand.tmp 10), type := 4, pos := "audit.go:81", after := #[{ on := 2, ground := Ground.data }, { on := 1, ground := Ground.chain }], guard := none }) (v := .bool false) rfl (by kernel_rfl) (by kernel_rfl) (by kernel_rfl) (fun _ _ _ h => h.elim) (Or.inl ⟨by rfl, ?y3⟩) hS1.out ?_
    case y3 =>
      intro V hV
      go_simp
    simp only [Act.put, List.setIfInBounds_toArray, List.set_cons_zero, List.set_cons_succ]
    refine wpAnyH_take (i := 4) (oi := { dst := some 12, op := Op.call { callee := Callee.value (Operand.func 37), args := #[Operand.tmp 5], argTypes := #[58] }, type := 35, pos := "audit.go:81", after := #[{ on := 3, ground := Ground.chain }, { on := 3, ground := Ground.guard }], guard := some (3, true) }) (v := undef) rfl (by kernel_rfl) (by kernel_rfl) (by kernel_rfl) (fun _ _ _ h => h.elim) (Or.inr ⟨by rfl, rfl⟩) hS1.out ?_
    simp only [Act.put, List.setIfInBounds_toArray, List.set_cons_zero, List.set_cons_succ]
    refine wpAnyH_take (i := 5) (oi := { dst := some 13, op := Op.load 35 (Operand.tmp 3), type := 35, pos := "audit.go:81", after := #[{ on := 3, ground := Ground.guard }], guard := some (3, true) }) (v := undef) rfl (by kernel_rfl) (by kernel_rfl) (by kernel_rfl) (fun _ _ _ h => h.elim) (Or.inr ⟨by rfl, rfl⟩) hS1.out ?_
    simp only [Act.put, List.setIfInBounds_toArray, List.set_cons_zero, List.set_cons_succ]
    refine wpAnyH_take (i := 6) (oi := { dst := some 14, op := Op.binOp BinOp.eql 35 (Operand.tmp 12) (Operand.tmp 13) 35, type := 4, pos := "audit.go:81", after := #[{ on := 4, ground := Ground.data }, { on := 5, ground := Ground.data }, { on := 3, ground := Ground.guard }], guard := some (3, true) }) (v := undef) rfl (by kernel_rfl) (by kernel_rfl) (by kernel_rfl) (fun _ _ _ h => h.elim) (Or.inr ⟨by rfl, rfl⟩) hS1.out ?_
    simp only [Act.put, List.setIfInBounds_toArray, List.set_cons_zero, List.set_cons_succ]
    refine wpAnyH_take (i := 7) (oi := { dst := some 15, op := Op.pick (Operand.tmp 11) (Operand.tmp 14) (Operand.const (Value.bool false)), type := 4, pos := "audit.go:81", after := #[{ on := 3, ground := Ground.data }, { on := 6, ground := Ground.data }], guard := none }) (v := .bool false) rfl (by kernel_rfl) (by kernel_rfl) (by kernel_rfl) (fun _ _ _ h => h.elim) (Or.inl ⟨by rfl, ?y4⟩) hS1.out ?_
    case y4 =>
      intro V hV
      go_simp
    simp only [Act.put, List.setIfInBounds_toArray, List.set_cons_zero, List.set_cons_succ]
    refine wpAnyH_take (i := 8) (oi := { dst := some 4, op := Op.assign (Operand.tmp 15), type := 4, pos := "audit.go:81", after := #[{ on := 7, ground := Ground.data }, { on := 4, ground := Ground.chain }, { on := 0, ground := Ground.phase }, { on := 1, ground := Ground.phase }, { on := 2, ground := Ground.phase }, { on := 3, ground := Ground.phase }, { on := 4, ground := Ground.phase }, { on := 5, ground := Ground.phase }, { on := 6, ground := Ground.phase }, { on := 7, ground := Ground.phase }], guard := none }) (v := .bool false) rfl (by kernel_rfl) (by kernel_rfl) (by kernel_rfl) (fun _ _ _ h => h.elim) (Or.inl ⟨by rfl, ?y5⟩) hS1.out ?_
    case y5 =>
      intro V hV
      go_simp
    simp only [Act.put, List.setIfInBounds_toArray, List.set_cons_zero, List.set_cons_succ]
    refine wpAnyH_done (by kernel_rfl) ?_ _
    exact hQ V1 hS1.out
#print axioms hd2n
set_option maxRecDepth 100000 in
set_option maxHeartbeats 1000000 in
theorem holds_is {w : World} {v : Value} {l : List En} {Dh : List UInt8} (h : EsR w v l) (hz : ∀ e ∈ l, e.sz) (hl : l.length ≤ 1000000) (hk : KT w) (hs : ST w) (hd : Dh.length = 32) (R : Bool) (hR : R = true ↔ (∀ i, i < l.length → okAt l i) ∧ hdE l = Dh) : Calls Tryd.prog 24 #[v, .agg (U Dh).toArray] w fun e w' => e = .returned (.bool R) ∧ Below w.heap.size w w' := by
  obtain ⟨k, hv⟩ := vf_some l
  obtain ⟨av, cv, rfl⟩ : ∃ a c, v = .slice a l.length c := by
    obtain ⟨_, a, c, h, _⟩ := h
    exact ⟨a, c, h⟩
  obtain ⟨D, hD⟩ : ∃ D, hdE l = D := ⟨_, rfl⟩
  have hDl : D.length = 32 := by rw [← hD]; exact hdE_len l
  obtain ⟨b, hb⟩ : ∃ b, w.heap.size = b := ⟨_, rfl⟩
  obtain ⟨A, hA⟩ : ∃ A, w.alloc (.cells (U Dh).toArray 35) = A := ⟨_, rfl⟩
  have hb1 : Below w.heap.size w A := by rw [← hA]; exact below_al _ _
  have hbb : Blk A b 35 (U Dh) := by rw [← hA, ← hb]; exact Blk.new w _ _
  have H : Hid (EsR A (.slice av l.length cv) l ∧ Below w.heap.size w A ∧ Blk A b 35 (U Dh) ∧ KT A ∧ ST A ∧ (∀ e ∈ l, e.sz) ∧ l.length ≤ 1000000 ∧ Dh.length = 32 ∧ D.length = 32 ∧ hdE l = D ∧ VfP l k) := ⟨h.below hb1, hb1, hbb, hk.below hb1, hs.below hb1, hz, hl, hd, hDl, hD, hv⟩
  have HR : Hid (R = true ↔ (∀ i, i < l.length → okAt l i) ∧ D = Dh) := by rw [← hD]; exact hR
  obtain ⟨c, hc⟩ : ∃ c, A.heap.size = c := ⟨_, rfl⟩
  have HC : Hid (A.heap.size = c ∧ w.heap.size ≤ c ∧ b < c) := ⟨hc, by have := hb1.size; omega, by have := hbb.lt; omega⟩
  clear h hz hl hk hs hd hR hb1 hbb hDl hD hv
  go_enter Tryd.func24, Tryd.ntmps24
  go_wp2_with (with_reducible change wpList _ _ _ ({ dst := none, op := Op.store 58 _ _, type := _, pos := _, after := _, guard := _ } :: _) _ _; refine Hid.out ?_)
  show wpList _ _ _ _ _ _
  refine wpList_store_blk rfl 58 (.tmp 5) (.tmp 7) rfl c 0 58 [.slice none 0 0] [.slice av l.length cv] rfl rfl (by rw [← HC.out.1]; exact Blk.new A _ _) (by simp) size58 (by intro v hv; rw [List.mem_singleton.1 hv]; rfl) ?_
  intro W1 hx1 hg1
  have H1 : Hid (Below A.heap.size A W1 ∧ Blk W1 c 58 [.slice av l.length cv]) := by
    have e := below_al A (.cells #[.slice none 0 0] 58)
    exact ⟨below_gr e hg1.out (Nat.le_of_eq HC.out.1), by simpa using hx1.out⟩
  clear hx1 hg1 hA hb hc
  have HCh : Hid (Ch W1 c l) := ⟨_, H1.out.2, H.out.1.below H1.out.1, H.out.2.2.2.2.2.2.1, H.out.2.2.2.2.2.1⟩
  have HV : Hid (∀ V, Below W1.heap.size W1 V → Calls Tryd.prog 23 #[.slice av l.length cv] V fun e V2 => e = .returned (iv k) ∧ Below V.heap.size V V2) := fun V hV => by
    have hb := below_tr H1.out.1 hV
    exact verify_k H.out.2.2.2.2.2.2.2.2.2.2 (H.out.1.below hb) H.out.2.2.2.2.2.1 H.out.2.2.2.2.2.2.1 (H.out.2.2.2.1.below hb) (H.out.2.2.2.2.1.below hb)
  have HHD : Hid (∀ V, Below W1.heap.size W1 V → Calls Tryd.prog 37 #[.pointer (some ⟨c, 0, none⟩)] V fun e V2 => e = .returned (.agg (U D).toArray) ∧ Below V.heap.size V V2) := fun V hV => by
    have hb := below_tr H1.out.1 hV
    exact head_is (HCh.out.below hV) (H.out.2.2.2.1.below hb) (H.out.2.2.2.2.1.below hb) D H.out.2.2.2.2.2.2.2.2.2.1
  rcases H.out.2.2.2.2.2.2.2.2.2.2 with ⟨hk1, ha⟩ | ⟨i, hk1, h1, h2, h3⟩
  · have hk0 : k < 0 := by omega
    have HE : Hid (∀ W, (binOp .eql 35 (.agg (U D).toArray) (.agg (U Dh).toArray)).run Tryd.prog W = .ok (.bool R) W) := fun W => by
      rw [eqHb D Dh H.out.2.2.2.2.2.2.2.2.1 H.out.2.2.2.2.2.2.2.1]
      congr 2
      rw [Bool.eq_iff_iff, decide_eq_true_eq]
      exact ⟨fun e => HR.out.2 ⟨ha, e⟩, fun e => (HR.out.1 e).2⟩
    clear ha hk1
    go_wp2_with fail
    refine hd2y ⟨H.out.2.2.1.below H1.out.1 H.out.2.2.1.lt, H.out.2.2.2.2.2.2.2.1⟩ HV HHD HE hk0 ?_
    intro W2 hb2
    have HF : Hid (Below w.heap.size w W2) := below_tr H.out.2.1 (below_tr H1.out.1 hb2)
    clear hb2 HV HHD HE hk0
    go_wp2
    go_ret
    exact ⟨rfl, HF.out⟩
  · have hk0 : 0 ≤ k := by omega
    have hRf : R = false := by
      cases hc : R with
      | false => rfl
      | true => exact absurd ((HR.out.1 hc).1 i h1) h2
    subst hRf
    clear h1 h2 h3 hk1
    go_wp2_with fail
    refine hd2n HV hk0 ?_
    intro W2 hb2
    have HF : Hid (Below w.heap.size w W2) := below_tr H.out.2.1 (below_tr H1.out.1 hb2)
    clear hb2 HV HHD hk0
    go_wp2
    go_ret
    exact ⟨rfl, HF.out⟩
#print axioms holds_is
end Go.Proofs.YtmmpafaegmejlaaDoor.Oct
