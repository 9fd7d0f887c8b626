/-
  Layer 19 (audit): Holds.
  Layer 19 (audit): the chapter's example: its drawn region.
  Layer 19 (audit): the chapter's example.
  Layer 19 (audit): the laws' arguments.
  Layer 19 (audit): the law AuditNobody.
  Layer 19 (audit): few calls.
-/
import Derived.Test.YtmmpafaegmejlaaDoorPkB
import Derived.Test.YtmmpafaegmejlaaDoorTables
import Derived.Deep.Slices
import Derived.ProofKit
import Derived.SizedLaws
import Derived.ChangeSame
import Derived.OpenShut
import Derived.ShutString
import Derived.ChangeOld
import Derived.BigFrame
/- Layer 19 (audit): Holds. -/
namespace Go.Proofs.YtmmpafaegmejlaaDoor.Oct
open Go.RowKit Sha
set_option linter.unusedSimpArgs false
set_option linter.unusedVariables false

theorem vf_some (l : List En) : ∃ k, VfP l k := by
  by_cases h : ∀ i, i < l.length → okAt l i
  · exact ⟨-1, .inl ⟨rfl, h⟩⟩
  · have h1 : ∃ i, i < l.length ∧ ¬ okAt l i := Classical.byContradiction fun hn => h fun i hi => Classical.byContradiction fun hk => hn ⟨i, hi, hk⟩
    have : ∀ n : Nat, ∀ i, i ≤ n → i < l.length → ¬ okAt l i → ∃ j, j < l.length ∧ ¬ okAt l j ∧ ∀ m, m < j → okAt l m := by
      intro n
      induction n with
      | zero =>
        intro i h0 h1 h2
        obtain rfl : i = 0 := by omega
        exact ⟨0, h1, h2, fun m hm => absurd hm (by omega)⟩
      | succ n ih =>
        intro i h0 h1 h2
        by_cases h3 : ∃ m, m < i ∧ ¬ okAt l m
        · obtain ⟨m, hm, hm2⟩ := h3
          exact ih m (by omega) (by omega) hm2
        · exact ⟨i, h1, h2, fun m hm => Classical.byContradiction fun hk => h3 ⟨m, hm, hk⟩⟩
    obtain ⟨i, hi, hi2⟩ := h1
    obtain ⟨j, hj1, hj2, hj3⟩ := this i i (Nat.le_refl _) hi hi2
    exact ⟨j, .inr ⟨j, rfl, hj1, hj2, hj3⟩⟩
theorem verify_k {w : World} {v : Value} {l : List En} {k : Int} (hv : VfP l k) (h : EsR w v l) (hz : ∀ e ∈ l, e.sz) (hl : l.length ≤ 1000000) (hk : KT w) (hs : ST w) : Calls Tryd.prog 23 #[v] w fun e w' => e = .returned (iv k) ∧ Below w.heap.size w w' :=
  (verify_is h hz hl hk hs).mono (by
    rintro e w' ⟨k', rfl, h1, h2⟩
    exact ⟨by rw [h1.out.one hv], h2⟩)
theorem yl_eq35 {o : Oper} {a : Act} (V : World) (p q : Operand) (x y : Array Value) (E : Bool) (hop : o.op = .binOp .eql 35 p q 35) (hx : a.eval p = .agg x) (hy : a.eval q = .agg y) (h : ∀ W, (binOp .eql 35 (.agg x) (.agg y)).run Tryd.prog W = .ok (.bool E) W) : (execOp a.eval o).run Tryd.prog V = .ok (.value (.bool E)) V := by
  unfold execOp
  simp only [hop, hx, hy, Sem.run_bind, Sem.run_pure]
  have hg : (eqGuard BinOp.eql 35 p q (.agg x) (.agg y)).run Tryd.prog V = .ok () V := run_eqGuard_agg V .eql 35 p q x y (by kernel_rfl)
  rw [hg]
  simp only [Result.andThen_ok, h]
theorem below_drew0 (A : World) : Below A.heap.size A A.drew := ⟨rfl, rfl, rfl, Nat.le_refl _, fun _ _ => rfl⟩
set_option maxRecDepth 100000 in
set_option maxHeartbeats 4000000 in
theorem hd2y {Q : Exit → Act → World → Prop} {x1 x2 x4 x6 x7 x8 x9 x10 x11 x12 x13 x14 x15 : Value} {ds : List Deferred} {A : World} {h c : Nat} {sv : Value} {k : Int} {D Dh : List UInt8} {E : Bool}
    (HH : Hid (Blk A h 35 (U Dh) ∧ Dh.length = 32)) (HV : Hid (∀ V, Below A.heap.size A V → Calls Tryd.prog 23 #[sv] V fun e V2 => e = .returned (iv k) ∧ Below V.heap.size V V2)) (HHD : Hid (∀ V, Below A.heap.size A V → Calls Tryd.prog 37 #[.pointer (some ⟨c, 0, none⟩)] V fun e V2 => e = .returned (.agg (U D).toArray) ∧ Below V.heap.size V V2)) (HE : Hid (∀ W, (binOp .eql 35 (.agg (U D).toArray) (.agg (U Dh).toArray)).run Tryd.prog W = .ok (.bool E) W)) (hk : k < 0)
    (hQ : ∀ V1, Below A.heap.size A V1 → Q .normal { tmps := #[sv, x1, x2, .pointer (some ⟨h, 0, none⟩), .bool E, .pointer (some ⟨c, 0, none⟩), x6, x7, sv, iv k, .bool true, .bool true, .agg (U D).toArray, .agg (U Dh).toArray, .bool E, .bool E], defers := ds } V1) :
    (Code.region 2 #[{ dst := some 8, op := Op.move (Operand.tmp 0), type := 27, pos := "audit.go:81", after := #[], guard := none }, { dst := some 9, op := Op.call { callee := Callee.value (Operand.func 23), args := #[Operand.tmp 8], argTypes := #[27] }, type := 3, pos := "audit.go:81", after := #[{ on := 0, ground := Ground.data }], guard := none }, { dst := some 10, op := Op.binOp BinOp.lss 3 (Operand.tmp 9) (Operand.const (Value.int IntKind.i64 0)) 3, type := 4, pos := "audit.go:81", after := #[{ on := 1, ground := Ground.data }], guard := none }, { dst := some 11, op := Op.move (Operand.tmp 10), type := 4, pos := "audit.go:81", after := #[{ on := 2, ground := Ground.data }, { on := 1, ground := Ground.chain }], guard := none }, { dst := some 12, op := Op.call { callee := Callee.value (Operand.func 37), args := #[Operand.tmp 5], argTypes := #[58] }, type := 35, pos := "audit.go:81", after := #[{ on := 3, ground := Ground.chain }, { on := 3, ground := Ground.guard }], guard := some (3, true) }, { dst := some 13, op := Op.load 35 (Operand.tmp 3), type := 35, pos := "audit.go:81", after := #[{ on := 3, ground := Ground.guard }], guard := some (3, true) }, { dst := some 14, op := Op.binOp BinOp.eql 35 (Operand.tmp 12) (Operand.tmp 13) 35, type := 4, pos := "audit.go:81", after := #[{ on := 4, ground := Ground.data }, { on := 5, ground := Ground.data }, { on := 3, ground := Ground.guard }], guard := some (3, true) }, { dst := some 15, op := Op.pick (Operand.tmp 11) (Operand.tmp 14) (Operand.const (Value.bool false)), type := 4, pos := "audit.go:81", after := #[{ on := 3, ground := Ground.data }, { on := 6, ground := Ground.data }], guard := none }, { dst := some 4, op := Op.assign (Operand.tmp 15), type := 4, pos := "audit.go:81", after := #[{ on := 7, ground := Ground.data }, { on := 4, ground := Ground.chain }, { on := 0, ground := Ground.phase }, { on := 1, ground := Ground.phase }, { on := 2, ground := Ground.phase }, { on := 3, ground := Ground.phase }, { on := 4, ground := Ground.phase }, { on := 5, ground := Ground.phase }, { on := 6, ground := Ground.phase }, { on := 7, ground := Ground.phase }], guard := none }] true).wp Tryd.prog Q { tmps := #[sv, x1, x2, .pointer (some ⟨h, 0, none⟩), x4, .pointer (some ⟨c, 0, none⟩), x6, x7, x8, x9, x10, x11, x12, x13, x14, x15], defers := ds } A := by
  refine Code.wp_mono (Q := fun x a' w' => match x with | .normal => Q .normal a' w' | _ => False) (by intro x a' w' h; cases x <;> first | exact h | exact h.elim) ?_
  refine wp_region_held (S := fun V => Below A.heap.size A V) (by kernel_rfl) ?_
  have hS0 : Hid (Below A.heap.size A A.drew) := below_drew0 A
  change wpAnyH Tryd.prog .any _ _ (fun V => Below A.heap.size A V) 9 (Array.replicate 9 false) _ A.drew
  obtain ⟨V0, hV0⟩ : ∃ V0, A.drew = V0 := ⟨_, rfl⟩
  rw [hV0]
  rw [hV0] at hS0
  clear hV0
  refine wpAnyH_take (i := 0) (oi := { dst := some 8, op := Op.move (Operand.tmp 0), type := 27, pos := "audit.go:81", after := #[], guard := none }) (v := sv) rfl (by kernel_rfl) (by kernel_rfl) (by kernel_rfl) (fun _ _ _ h => h.elim) (Or.inl ⟨by rfl, ?y1⟩) hS0.out ?_
  case y1 =>
    intro V hV
    go_simp
  simp only [Act.put, List.setIfInBounds_toArray, List.set_cons_zero, List.set_cons_succ]
  refine wpAnyH_ready (rs := [1]) (by kernel_rfl) (by simp) (AllReadyH.cons (i := 1) (o := { dst := some 9, op := Op.call { callee := Callee.value (Operand.func 23), args := #[Operand.tmp 8], argTypes := #[27] }, type := 3, pos := "audit.go:81", after := #[{ on := 0, ground := Ground.data }], guard := none }) rfl ?_ AllReadyH.nil)
  · intro K1 hK1
    rw [if_pos (by rfl)]
    have HC1 := HV.out V0 hS0.out
    go_wp2_with fail
    refine HC1.mono ?_
    rintro e V1 ⟨rfl, hb1⟩
    dsimp only
    clear HC1
    have hS1 : Hid (Below A.heap.size A V1) := hS0.out.trans (hb1.mono hS0.out.size)
    clear hb1
    refine hK1.out _ _ hS1.out ?_
    clear hK1
    intro _
    try simp only [Act.put, List.setIfInBounds_toArray, List.set_cons_zero, List.set_cons_succ]
    refine wpAnyH_take (i := 2) (oi := { dst := some 10, op := Op.binOp BinOp.lss 3 (Operand.tmp 9) (Operand.const (Value.int IntKind.i64 0)) 3, type := 4, pos := "audit.go:81", after := #[{ on := 1, ground := Ground.data }], guard := none }) (v := .bool true) rfl (by kernel_rfl) (by kernel_rfl) (by kernel_rfl) (fun _ _ _ h => h.elim) (Or.inl ⟨by rfl, ?y2⟩) hS1.out ?_
    case y2 =>
      intro V hV
      have q1 := hk
      go_simp
    simp only [Act.put, List.setIfInBounds_toArray, List.set_cons_zero, List.set_cons_succ]
    refine wpAnyH_take (i := 3) (oi := { dst := some 11, op := Op.move (Operand.tmp 10), type := 4, pos := "audit.go:81", after := #[{ on := 2, ground := Ground.data }, { on := 1, ground := Ground.chain }], guard := none }) (v := .bool true) rfl (by kernel_rfl) (by kernel_rfl) (by kernel_rfl) (fun _ _ _ h => h.elim) (Or.inl ⟨by rfl, ?y3⟩) hS1.out ?_
    case y3 =>
      intro V hV
      go_simp
    simp only [Act.put, List.setIfInBounds_toArray, List.set_cons_zero, List.set_cons_succ]
    refine wpAnyH_take (i := 5) (oi := { dst := some 13, op := Op.load 35 (Operand.tmp 3), type := 35, pos := "audit.go:81", after := #[{ on := 3, ground := Ground.guard }], guard := some (3, true) }) (v := .agg (U Dh).toArray) rfl (by kernel_rfl) (by kernel_rfl) (by kernel_rfl) (fun _ _ _ h => h.elim) (yieldsIf_load_mid (by rfl) _ _ rfl _ _ rfl (U Dh) _ (fun V hV => rangeAt_same (HH.out.1.range0) ((show Below A.heap.size A V from hV).block _ (HH.out.1.lt))) Tryd.underlying35 rfl ((by rw [U_length, HH.out.2]; exact size35))) hS1.out ?_
    simp only [Act.put, List.setIfInBounds_toArray, List.set_cons_zero, List.set_cons_succ]
    refine wpAnyH_ready (rs := [4]) (by kernel_rfl) (by simp) (AllReadyH.cons (i := 4) (o := { dst := some 12, op := Op.call { callee := Callee.value (Operand.func 37), args := #[Operand.tmp 5], argTypes := #[58] }, type := 35, pos := "audit.go:81", after := #[{ on := 3, ground := Ground.chain }, { on := 3, ground := Ground.guard }], guard := some (3, true) }) rfl ?_ AllReadyH.nil)
    · intro K1 hK1
      rw [if_pos (by rfl)]
      have HC2 := HHD.out V1 hS1.out
      go_wp2_with fail
      refine HC2.mono ?_
      rintro e V2 ⟨rfl, hb2⟩
      dsimp only
      clear HC2
      have hS2 : Hid (Below A.heap.size A V2) := hS1.out.trans (hb2.mono hS1.out.size)
      clear hb2
      refine hK1.out _ _ hS2.out ?_
      clear hK1
      intro _
      try simp only [Act.put, List.setIfInBounds_toArray, List.set_cons_zero, List.set_cons_succ]
      refine wpAnyH_take (i := 6) (oi := { dst := some 14, op := Op.binOp BinOp.eql 35 (Operand.tmp 12) (Operand.tmp 13) 35, type := 4, pos := "audit.go:81", after := #[{ on := 4, ground := Ground.data }, { on := 5, ground := Ground.data }, { on := 3, ground := Ground.guard }], guard := some (3, true) }) (v := .bool E) rfl (by kernel_rfl) (by kernel_rfl) (by kernel_rfl) (fun _ _ _ h => h.elim) (Or.inl ⟨by rfl, ?y4⟩) hS2.out ?_
      case y4 =>
        intro V hV
        exact yl_eq35 V _ _ _ _ _ rfl rfl rfl HE.out
      simp only [Act.put, List.setIfInBounds_toArray, List.set_cons_zero, List.set_cons_succ]
      refine wpAnyH_take (i := 7) (oi := { dst := some 15, op := Op.pick (Operand.tmp 11) (Operand.tmp 14) (Operand.const (Value.bool false)), type := 4, pos := "audit.go:81", after := #[{ on := 3, ground := Ground.data }, { on := 6, ground := Ground.data }], guard := none }) (v := .bool E) rfl (by kernel_rfl) (by kernel_rfl) (by kernel_rfl) (fun _ _ _ h => h.elim) (Or.inl ⟨by rfl, ?y5⟩) hS2.out ?_
      case y5 =>
        intro V hV
        go_simp
      simp only [Act.put, List.setIfInBounds_toArray, List.set_cons_zero, List.set_cons_succ]
      refine wpAnyH_take (i := 8) (oi := { dst := some 4, op := Op.assign (Operand.tmp 15), type := 4, pos := "audit.go:81", after := #[{ on := 7, ground := Ground.data }, { on := 4, ground := Ground.chain }, { on := 0, ground := Ground.phase }, { on := 1, ground := Ground.phase }, { on := 2, ground := Ground.phase }, { on := 3, ground := Ground.phase }, { on := 4, ground := Ground.phase }, { on := 5, ground := Ground.phase }, { on := 6, ground := Ground.phase }, { on := 7, ground := Ground.phase }], guard := none }) (v := .bool E) rfl (by kernel_rfl) (by kernel_rfl) (by kernel_rfl) (fun _ _ _ h => h.elim) (Or.inl ⟨by rfl, ?y6⟩) hS2.out ?_
      case y6 =>
        intro V hV
        go_simp
      simp only [Act.put, List.setIfInBounds_toArray, List.set_cons_zero, List.set_cons_succ]
      refine wpAnyH_done (by kernel_rfl) ?_ _
      exact hQ V2 hS2.out
set_option maxRecDepth 100000 in
set_option maxHeartbeats 4000000 in
theorem hd2n {Q : Exit → Act → World → Prop} {x1 x2 x4 x6 x7 x8 x9 x10 x11 x12 x13 x14 x15 : Value} {ds : List Deferred} {A : World} {h c : Nat} {sv : Value} {k : Int}
    (HV : Hid (∀ V, Below A.heap.size A V → Calls Tryd.prog 23 #[sv] V fun e V2 => e = .returned (iv k) ∧ Below V.heap.size V V2)) (hk : 0 ≤ k)
    (hQ : ∀ V1, Below A.heap.size A V1 → Q .normal { tmps := #[sv, x1, x2, .pointer (some ⟨h, 0, none⟩), .bool false, .pointer (some ⟨c, 0, none⟩), x6, x7, sv, iv k, .bool false, .bool false, undef, undef, undef, .bool false], defers := ds } V1) :
    (Code.region 2 #[{ dst := some 8, op := Op.move (Operand.tmp 0), type := 27, pos := "audit.go:81", after := #[], guard := none }, { dst := some 9, op := Op.call { callee := Callee.value (Operand.func 23), args := #[Operand.tmp 8], argTypes := #[27] }, type := 3, pos := "audit.go:81", after := #[{ on := 0, ground := Ground.data }], guard := none }, { dst := some 10, op := Op.binOp BinOp.lss 3 (Operand.tmp 9) (Operand.const (Value.int IntKind.i64 0)) 3, type := 4, pos := "audit.go:81", after := #[{ on := 1, ground := Ground.data }], guard := none }, { dst := some 11, op := Op.move (Operand.tmp 10), type := 4, pos := "audit.go:81", after := #[{ on := 2, ground := Ground.data }, { on := 1, ground := Ground.chain }], guard := none }, { dst := some 12, op := Op.call { callee := Callee.value (Operand.func 37), args := #[Operand.tmp 5], argTypes := #[58] }, type := 35, pos := "audit.go:81", after := #[{ on := 3, ground := Ground.chain }, { on := 3, ground := Ground.guard }], guard := some (3, true) }, { dst := some 13, op := Op.load 35 (Operand.tmp 3), type := 35, pos := "audit.go:81", after := #[{ on := 3, ground := Ground.guard }], guard := some (3, true) }, { dst := some 14, op := Op.binOp BinOp.eql 35 (Operand.tmp 12) (Operand.tmp 13) 35, type := 4, pos := "audit.go:81", after := #[{ on := 4, ground := Ground.data }, { on := 5, ground := Ground.data }, { on := 3, ground := Ground.guard }], guard := some (3, true) }, { dst := some 15, op := Op.pick (Operand.tmp 11) (Operand.tmp 14) (Operand.const (Value.bool false)), type := 4, pos := "audit.go:81", after := #[{ on := 3, ground := Ground.data }, { on := 6, ground := Ground.data }], guard := none }, { dst := some 4, op := Op.assign (Operand.tmp 15), type := 4, pos := "audit.go:81", after := #[{ on := 7, ground := Ground.data }, { on := 4, ground := Ground.chain }, { on := 0, ground := Ground.phase }, { on := 1, ground := Ground.phase }, { on := 2, ground := Ground.phase }, { on := 3, ground := Ground.phase }, { on := 4, ground := Ground.phase }, { on := 5, ground := Ground.phase }, { on := 6, ground := Ground.phase }, { on := 7, ground := Ground.phase }], guard := none }] true).wp Tryd.prog Q { tmps := #[sv, x1, x2, .pointer (some ⟨h, 0, none⟩), x4, .pointer (some ⟨c, 0, none⟩), x6, x7, x8, x9, x10, x11, x12, x13, x14, x15], defers := ds } A := by
  refine Code.wp_mono (Q := fun x a' w' => match x with | .normal => Q .normal a' w' | _ => False) (by intro x a' w' h; cases x <;> first | exact h | exact h.elim) ?_
  refine wp_region_held (S := fun V => Below A.heap.size A V) (by kernel_rfl) ?_
  have hS0 : Hid (Below A.heap.size A A.drew) := below_drew0 A
  change wpAnyH Tryd.prog .any _ _ (fun V => Below A.heap.size A V) 9 (Array.replicate 9 false) _ A.drew
  obtain ⟨V0, hV0⟩ : ∃ V0, A.drew = V0 := ⟨_, rfl⟩
  rw [hV0]
  rw [hV0] at hS0
  clear hV0
  refine wpAnyH_take (i := 0) (oi := { dst := some 8, op := Op.move (Operand.tmp 0), type := 27, pos := "audit.go:81", after := #[], guard := none }) (v := sv) rfl (by kernel_rfl) (by kernel_rfl) (by kernel_rfl) (fun _ _ _ h => h.elim) (Or.inl ⟨by rfl, ?y1⟩) hS0.out ?_
  case y1 =>
    intro V hV
    go_simp
  simp only [Act.put, List.setIfInBounds_toArray, List.set_cons_zero, List.set_cons_succ]
  refine wpAnyH_ready (rs := [1]) (by kernel_rfl) (by simp) (AllReadyH.cons (i := 1) (o := { dst := some 9, op := Op.call { callee := Callee.value (Operand.func 23), args := #[Operand.tmp 8], argTypes := #[27] }, type := 3, pos := "audit.go:81", after := #[{ on := 0, ground := Ground.data }], guard := none }) rfl ?_ AllReadyH.nil)
  · intro K1 hK1
    rw [if_pos (by rfl)]
    have HC1 := HV.out V0 hS0.out
    go_wp2_with fail
    refine HC1.mono ?_
    rintro e V1 ⟨rfl, hb1⟩
    dsimp only
    clear HC1
    have hS1 : Hid (Below A.heap.size A V1) := hS0.out.trans (hb1.mono hS0.out.size)
    clear hb1
    refine hK1.out _ _ hS1.out ?_
    clear hK1
    intro _
    try simp only [Act.put, List.setIfInBounds_toArray, List.set_cons_zero, List.set_cons_succ]
    refine wpAnyH_take (i := 2) (oi := { dst := some 10, op := Op.binOp BinOp.lss 3 (Operand.tmp 9) (Operand.const (Value.int IntKind.i64 0)) 3, type := 4, pos := "audit.go:81", after := #[{ on := 1, ground := Ground.data }], guard := none }) (v := .bool false) rfl (by kernel_rfl) (by kernel_rfl) (by kernel_rfl) (fun _ _ _ h => h.elim) (Or.inl ⟨by rfl, ?y2⟩) hS1.out ?_
    case y2 =>
      intro V hV
      have q1 := hk
      go_simp
    simp only [Act.put, List.setIfInBounds_toArray, List.set_cons_zero, List.set_cons_succ]
    refine wpAnyH_take (i := 3) (oi := { dst := some 11, op := Op.move (Operand.tmp 10), type := 4, pos := "audit.go:81", after := #[{ on := 2, ground := Ground.data }, { on := 1, ground := Ground.chain }], guard := none }) (v := .bool false) rfl (by kernel_rfl) (by kernel_rfl) (by kernel_rfl) (fun _ _ _ h => h.elim) (Or.inl ⟨by rfl, ?y3⟩) hS1.out ?_
    case y3 =>
      intro V hV
      go_simp
    simp only [Act.put, List.setIfInBounds_toArray, List.set_cons_zero, List.set_cons_succ]
    refine wpAnyH_take (i := 4) (oi := { dst := some 12, op := Op.call { callee := Callee.value (Operand.func 37), args := #[Operand.tmp 5], argTypes := #[58] }, type := 35, pos := "audit.go:81", after := #[{ on := 3, ground := Ground.chain }, { on := 3, ground := Ground.guard }], guard := some (3, true) }) (v := undef) rfl (by kernel_rfl) (by kernel_rfl) (by kernel_rfl) (fun _ _ _ h => h.elim) (Or.inr ⟨by rfl, rfl⟩) hS1.out ?_
    simp only [Act.put, List.setIfInBounds_toArray, List.set_cons_zero, List.set_cons_succ]
    refine wpAnyH_take (i := 5) (oi := { dst := some 13, op := Op.load 35 (Operand.tmp 3), type := 35, pos := "audit.go:81", after := #[{ on := 3, ground := Ground.guard }], guard := some (3, true) }) (v := undef) rfl (by kernel_rfl) (by kernel_rfl) (by kernel_rfl) (fun _ _ _ h => h.elim) (Or.inr ⟨by rfl, rfl⟩) hS1.out ?_
    simp only [Act.put, List.setIfInBounds_toArray, List.set_cons_zero, List.set_cons_succ]
    refine wpAnyH_take (i := 6) (oi := { dst := some 14, op := Op.binOp BinOp.eql 35 (Operand.tmp 12) (Operand.tmp 13) 35, type := 4, pos := "audit.go:81", after := #[{ on := 4, ground := Ground.data }, { on := 5, ground := Ground.data }, { on := 3, ground := Ground.guard }], guard := some (3, true) }) (v := undef) rfl (by kernel_rfl) (by kernel_rfl) (by kernel_rfl) (fun _ _ _ h => h.elim) (Or.inr ⟨by rfl, rfl⟩) hS1.out ?_
    simp only [Act.put, List.setIfInBounds_toArray, List.set_cons_zero, List.set_cons_succ]
    refine wpAnyH_take (i := 7) (oi := { dst := some 15, op := Op.pick (Operand.tmp 11) (Operand.tmp 14) (Operand.const (Value.bool false)), type := 4, pos := "audit.go:81", after := #[{ on := 3, ground := Ground.data }, { on := 6, ground := Ground.data }], guard := none }) (v := .bool false) rfl (by kernel_rfl) (by kernel_rfl) (by kernel_rfl) (fun _ _ _ h => h.elim) (Or.inl ⟨by rfl, ?y4⟩) hS1.out ?_
    case y4 =>
      intro V hV
      go_simp
    simp only [Act.put, List.setIfInBounds_toArray, List.set_cons_zero, List.set_cons_succ]
    refine wpAnyH_take (i := 8) (oi := { dst := some 4, op := Op.assign (Operand.tmp 15), type := 4, pos := "audit.go:81", after := #[{ on := 7, ground := Ground.data }, { on := 4, ground := Ground.chain }, { on := 0, ground := Ground.phase }, { on := 1, ground := Ground.phase }, { on := 2, ground := Ground.phase }, { on := 3, ground := Ground.phase }, { on := 4, ground := Ground.phase }, { on := 5, ground := Ground.phase }, { on := 6, ground := Ground.phase }, { on := 7, ground := Ground.phase }], guard := none }) (v := .bool false) rfl (by kernel_rfl) (by kernel_rfl) (by kernel_rfl) (fun _ _ _ h => h.elim) (Or.inl ⟨by rfl, ?y5⟩) hS1.out ?_
    case y5 =>
      intro V hV
      go_simp
    simp only [Act.put, List.setIfInBounds_toArray, List.set_cons_zero, List.set_cons_succ]
    refine wpAnyH_done (by kernel_rfl) ?_ _
    exact hQ V1 hS1.out
set_option maxRecDepth 100000 in
set_option maxHeartbeats 1000000 in
theorem holds_is {w : World} {v : Value} {l : List En} {Dh : List UInt8} (h : EsR w v l) (hz : ∀ e ∈ l, e.sz) (hl : l.length ≤ 1000000) (hk : KT w) (hs : ST w) (hd : Dh.length = 32) (R : Bool) (hR : R = true ↔ (∀ i, i < l.length → okAt l i) ∧ hdE l = Dh) : Calls Tryd.prog 24 #[v, .agg (U Dh).toArray] w fun e w' => e = .returned (.bool R) ∧ Below w.heap.size w w' := by
  obtain ⟨k, hv⟩ := vf_some l
  obtain ⟨av, cv, rfl⟩ : ∃ a c, v = .slice a l.length c := by
    obtain ⟨_, a, c, h, _⟩ := h
    exact ⟨a, c, h⟩
  obtain ⟨D, hD⟩ : ∃ D, hdE l = D := ⟨_, rfl⟩
  have hDl : D.length = 32 := by rw [← hD]; exact hdE_len l
  obtain ⟨b, hb⟩ : ∃ b, w.heap.size = b := ⟨_, rfl⟩
  obtain ⟨A, hA⟩ : ∃ A, w.alloc (.cells (U Dh).toArray 35) = A := ⟨_, rfl⟩
  have hb1 : Below w.heap.size w A := by rw [← hA]; exact below_al _ _
  have hbb : Blk A b 35 (U Dh) := by rw [← hA, ← hb]; exact Blk.new w _ _
  have H : Hid (EsR A (.slice av l.length cv) l ∧ Below w.heap.size w A ∧ Blk A b 35 (U Dh) ∧ KT A ∧ ST A ∧ (∀ e ∈ l, e.sz) ∧ l.length ≤ 1000000 ∧ Dh.length = 32 ∧ D.length = 32 ∧ hdE l = D ∧ VfP l k) := ⟨h.below hb1, hb1, hbb, hk.below hb1, hs.below hb1, hz, hl, hd, hDl, hD, hv⟩
  have HR : Hid (R = true ↔ (∀ i, i < l.length → okAt l i) ∧ D = Dh) := by rw [← hD]; exact hR
  obtain ⟨c, hc⟩ : ∃ c, A.heap.size = c := ⟨_, rfl⟩
  have HC : Hid (A.heap.size = c ∧ w.heap.size ≤ c ∧ b < c) := ⟨hc, by have := hb1.size; omega, by have := hbb.lt; omega⟩
  clear h hz hl hk hs hd hR hb1 hbb hDl hD hv
  go_enter Tryd.func24, Tryd.ntmps24
  go_wp2_with (with_reducible change wpList _ _ _ ({ dst := none, op := Op.store 58 _ _, type := _, pos := _, after := _, guard := _ } :: _) _ _; refine Hid.out ?_)
  show wpList _ _ _ _ _ _
  refine wpList_store_blk rfl 58 (.tmp 5) (.tmp 7) rfl c 0 58 [.slice none 0 0] [.slice av l.length cv] rfl rfl (by rw [← HC.out.1]; exact Blk.new A _ _) (by simp) size58 (by intro v hv; rw [List.mem_singleton.1 hv]; rfl) ?_
  intro W1 hx1 hg1
  have H1 : Hid (Below A.heap.size A W1 ∧ Blk W1 c 58 [.slice av l.length cv]) := by
    have e := below_al A (.cells #[.slice none 0 0] 58)
    exact ⟨below_gr e hg1.out (Nat.le_of_eq HC.out.1), by simpa using hx1.out⟩
  clear hx1 hg1 hA hb hc
  have HCh : Hid (Ch W1 c l) := ⟨_, H1.out.2, H.out.1.below H1.out.1, H.out.2.2.2.2.2.2.1, H.out.2.2.2.2.2.1⟩
  have HV : Hid (∀ V, Below W1.heap.size W1 V → Calls Tryd.prog 23 #[.slice av l.length cv] V fun e V2 => e = .returned (iv k) ∧ Below V.heap.size V V2) := fun V hV => by
    have hb := below_tr H1.out.1 hV
    exact verify_k H.out.2.2.2.2.2.2.2.2.2.2 (H.out.1.below hb) H.out.2.2.2.2.2.1 H.out.2.2.2.2.2.2.1 (H.out.2.2.2.1.below hb) (H.out.2.2.2.2.1.below hb)
  have HHD : Hid (∀ V, Below W1.heap.size W1 V → Calls Tryd.prog 37 #[.pointer (some ⟨c, 0, none⟩)] V fun e V2 => e = .returned (.agg (U D).toArray) ∧ Below V.heap.size V V2) := fun V hV => by
    have hb := below_tr H1.out.1 hV
    exact head_is (HCh.out.below hV) (H.out.2.2.2.1.below hb) (H.out.2.2.2.2.1.below hb) D H.out.2.2.2.2.2.2.2.2.2.1
  rcases H.out.2.2.2.2.2.2.2.2.2.2 with ⟨hk1, ha⟩ | ⟨i, hk1, h1, h2, h3⟩
  · have hk0 : k < 0 := by omega
    have HE : Hid (∀ W, (binOp .eql 35 (.agg (U D).toArray) (.agg (U Dh).toArray)).run Tryd.prog W = .ok (.bool R) W) := fun W => by
      rw [eqHb D Dh H.out.2.2.2.2.2.2.2.2.1 H.out.2.2.2.2.2.2.2.1]
      congr 2
      rw [Bool.eq_iff_iff, decide_eq_true_eq]
      exact ⟨fun e => HR.out.2 ⟨ha, e⟩, fun e => (HR.out.1 e).2⟩
    clear ha hk1
    go_wp2_with fail
    refine hd2y ⟨H.out.2.2.1.below H1.out.1 H.out.2.2.1.lt, H.out.2.2.2.2.2.2.2.1⟩ HV HHD HE hk0 ?_
    intro W2 hb2
    have HF : Hid (Below w.heap.size w W2) := below_tr H.out.2.1 (below_tr H1.out.1 hb2)
    clear hb2 HV HHD HE hk0
    go_wp2
    go_ret
    exact ⟨rfl, HF.out⟩
  · have hk0 : 0 ≤ k := by omega
    have hRf : R = false := by
      cases hc : R with
      | false => rfl
      | true => exact absurd ((HR.out.1 hc).1 i h1) h2
    subst hRf
    clear h1 h2 h3 hk1
    go_wp2_with fail
    refine hd2n HV hk0 ?_
    intro W2 hb2
    have HF : Hid (Below w.heap.size w W2) := below_tr H.out.2.1 (below_tr H1.out.1 hb2)
    clear hb2 HV HHD hk0
    go_wp2
    go_ret
    exact ⟨rfl, HF.out⟩
end Go.Proofs.YtmmpafaegmejlaaDoor.Oct

/- Layer 19 (audit): the chapter's example: its drawn region. -/
namespace Go.Proofs.YtmmpafaegmejlaaDoor.Oct
open Go.RowKit Sha
set_option linter.unusedSimpArgs false
set_option linter.unusedVariables false

theorem fold_gen (o : Nat) : ∀ (ds : List Value) (k : Nat) (A : Array Value), o + k + ds.length ≤ A.size → (List.foldl (fun a (x : Value × Nat) => a.setIfInBounds (o + x.2) x.1) A (ds.zipIdx k)).toList = A.toList.take (o + k) ++ ds ++ A.toList.drop (o + k + ds.length)
  | [], k, A, h => by simp
  | c :: ds, k, A, h => by
    rw [List.zipIdx_cons, List.foldl_cons, fold_gen o ds (k + 1) _ (by simp at h ⊢; omega)]
    have hk : o + k < A.toList.length := by simp at h ⊢; omega
    simp only [Array.toList_setIfInBounds]
    rw [← Nat.add_assoc, List.take_succ_eq_append_getElem (by simpa using hk), List.take_set_of_le (Nat.le_refl _), List.drop_set_of_lt (by omega)]
    simp [Nat.add_assoc, Nat.add_comm 1]
theorem run_bs2 (cs ds : List Value) (hl : cs.length = 36) (hd : ds.length = 36) (W : World) :
    (Instr.buildSlice 27 2 #[(0, .agg cs.toArray), (1, .agg ds.toArray)]).run Tryd.prog W = .ok (.slice (some ⟨W.heap.size, 0, none⟩) 2 2) (W.alloc (.cells (cs ++ ds).toArray 37)) := by
  obtain ⟨i, z, hi, hz, hs1, hby, hzs⟩ := sized37
  have e1 : ∀ A : Array Value, A.size = 72 → (List.foldl (fun cs (x : Value × Nat) => cs.setIfInBounds x.2 x.1) A cs.zipIdx).toList = cs ++ A.toList.drop 36 := by
    intro A hA
    have := fold_gen 0 cs 0 A (by omega)
    simp only [Nat.zero_add, List.take_zero, List.nil_append, hl] at this
    exact this
  have e2 : ∀ A : Array Value, A.size = 72 → List.foldl (fun cs (x : Value × Nat) => cs.setIfInBounds (36 + x.2) x.1) (List.foldl (fun cs (x : Value × Nat) => cs.setIfInBounds x.2 x.1) A cs.zipIdx) ds.zipIdx = (cs ++ ds).toArray := by
    intro A hA
    apply Array.toList_inj.1
    have hs : (List.foldl (fun cs (x : Value × Nat) => cs.setIfInBounds x.2 x.1) A cs.zipIdx).size = 72 := by
      rw [← Array.length_toList, e1 A hA, List.length_append, List.length_drop, show A.toList.length = 72 from hA]; omega
    rw [fold_gen 36 ds 0 _ (by omega), e1 A hA]
    rw [List.take_left' hl, List.drop_of_length_le (by rw [List.length_append, List.length_drop, show A.toList.length = 72 from hA]; omega)]
    simp
  have e3 : ∀ A : Array Value, A.size = 72 → ¬ (List.foldl (fun cs (x : Value × Nat) => cs.setIfInBounds x.2 x.1) A cs.zipIdx).size < 72 := by
    intro A hA
    rw [← Array.length_toList, e1 A hA, List.length_append, List.length_drop, show A.toList.length = 72 from hA]; omega
  simp [Instr.buildSlice, run_underlying elem27, sizeOf, typeInfo, hi, hs1, zeroValue, hz, Instr.fill, Value.cells, hl, hd, hzs]
  rw [if_neg (e3 _ (by simp)), e2 _ (by simp)]
  simp [newRow]
def xA : En := ⟨1, 1, ⟨#[97, 110, 110]⟩, ⟨#[109, 97, 100, 101, 32, 111, 114, 103]⟩, List.replicate 32 0⟩
theorem run_buildX (W : World) : (Instr.build 37 #[(0, iv 1), (1, iv 1), (2, .string ⟨#[97, 110, 110]⟩), (3, .string ⟨#[109, 97, 100, 101, 32, 111, 114, 103]⟩)]).run Tryd.prog W = .ok (.agg xA.cells.toArray) W := by kernel_rfl
theorem xA_ok : xA.ok ∧ xA.sz := by
  refine ⟨⟨by simp [xA], by decide, by decide, by decide, by decide⟩, ?_⟩
  show (3 : Nat) + 8 ≤ 400000000
  decide
theorem nx1 : nxE [] 1 ⟨#[97, 110, 110]⟩ ⟨#[109, 97, 100, 101, 32, 111, 114, 103]⟩ = (xA, 0) := by
  unfold nxE
  rw [if_neg (by decide), if_neg (by decide)]
  rfl
def yA : En := ⟨2, 1, ⟨#[98, 111, 98]⟩, e0, dgE xA⟩
theorem yA_ok : yA.ok ∧ yA.sz := by
  refine ⟨⟨dgE_len xA, by show (2 : Int) ≤ _; decide, by show (1 : Int) ≤ _; decide, by show (3 : Nat) ≤ _; decide, by show (0 : Nat) ≤ _; decide⟩, ?_⟩
  show (3 : Nat) + 0 ≤ 400000000
  decide
theorem nx2 : nxE [xA] 1 ⟨#[98, 111, 98]⟩ e0 = (yA, 0) := by
  unfold nxE
  rw [if_neg (by show ¬ ((1 : Int) < 1 ∨ 1099511627776 < (1 : Int)); decide), if_neg (by show ¬ (16 < (⟨#[98, 111, 98]⟩ : BA).size ∨ 512 < e0.size ∨ 4096 ≤ 1); decide)]
  rfl
theorem vf1 : VfP [xA, yA] (-1) := by
  refine .inl ⟨rfl, fun i hi => ?_⟩
  match i, hi with
  | 0, _ => intro e he; cases he; exact nx1
  | 1, _ => intro e he; cases he; exact nx2
theorem vf2 : VfP [yA] 0 := by
  refine .inr ⟨0, rfl, by simp, fun h => ?_, fun j hj => absurd hj (by omega)⟩
  have := h yA rfl
  have h2 : (nxE [] yA.tick yA.who yA.what).1.seq = 1 := by
    show (nxE [] 1 ⟨#[98, 111, 98]⟩ e0).1.seq = 1
    unfold nxE
    rw [if_neg (by decide), if_neg (by decide)]
    rfl
  rw [show nxE ([yA].take 0) yA.tick yA.who yA.what = nxE [] yA.tick yA.who yA.what from rfl] at this
  rw [this] at h2
  exact absurd h2 (by show ¬ (2 : Int) = 1; decide)
theorem step_bs2 {ops : Array Oper} {o : Oper} {a : Act} {w : World} {K : Act → World → Prop} {Q : Exit → Act → World → Prop} {E : Prop} (hw : Region.wanted o (yielded ops a.tmps) = true) (t : TypeId) (x y : Operand) (u u2 : Value) (hop : o.op = .buildSlice t 2 #[(0, x), (1, y)]) (hx : a.eval x = u) (hy : a.eval y = u2) {v : Value} {w' : World} (hrun : (Instr.buildSlice t 2 #[(0, u), (1, u2)]).run Tryd.prog w = .ok v w')
    (hk : K (a.put o.dst v) w') : if Region.wanted o (yielded ops a.tmps) = true then Oper.wp Tryd.prog o a w K Q else E := by
  rw [if_pos hw]
  unfold Oper.wp execOp
  simp [hop, hx, hy, hrun, Result.andThen]
  exact hk
theorem yl_eq37 {o : Oper} {a : Act} (V : World) (p q : Operand) (x y : Array Value) (E : Bool) (hop : o.op = .binOp .eql 37 p q 37) (hx : a.eval p = .agg x) (hy : a.eval q = .agg y) (h : ∀ W, (binOp .eql 37 (.agg x) (.agg y)).run Tryd.prog W = .ok (.bool E) W) : (execOp a.eval o).run Tryd.prog V = .ok (.value (.bool E)) V := by
  unfold execOp
  simp only [hop, hx, hy, Sem.run_bind, Sem.run_pure]
  have hg : (eqGuard BinOp.eql 37 p q (.agg x) (.agg y)).run Tryd.prog V = .ok () V := run_eqGuard_agg V .eql 37 p q x y (by kernel_rfl)
  rw [hg]
  simp only [Result.andThen_ok, h]
theorem yl_build4 {o : Oper} {a : Act} (V : World) (t : TypeId) (x0 x1 x2 x3 : Operand) (u0 u1 u2 u3 v : Value) (hop : o.op = .build t #[(0, x0), (1, x1), (2, x2), (3, x3)]) (h0 : a.eval x0 = u0) (h1 : a.eval x1 = u1) (h2 : a.eval x2 = u2) (h3 : a.eval x3 = u3)
    (hrun : ∀ W, (Instr.build t #[(0, u0), (1, u1), (2, u2), (3, u3)]).run Tryd.prog W = .ok v W) : (execOp a.eval o).run Tryd.prog V = .ok (.value v) V := by
  unfold execOp
  simp [hop, h0, h1, h2, h3, hrun, Result.andThen]
theorem esr_two {W : World} {b : Nat} {x y : En} (hx : x.ok) (hy : y.ok) (h : W.rangeAt b 0 (x.cells ++ y.cells)) (hb : b < W.heap.size) : EsR W (.slice (some ⟨b, 0, none⟩) 2 2) [x, y] := by
  have hok : ∀ e ∈ [x, y], e.ok := fun e he => by
    simp only [List.mem_cons, List.not_mem_nil, or_false] at he
    rcases he with rfl | rfl
    · exact hx
    · exact hy
  refine ⟨hok, some ⟨b, 0, none⟩, 2, rfl, Nat.le_refl _, by unfold maxLen; omega, fun _ => ⟨b, 0, rfl, hb, range_each hok ?_⟩⟩
  simpa [cellsE] using h
set_option maxRecDepth 100000 in
set_option maxHeartbeats 4000000 in
theorem lv4 {Q : Exit → Act → World → Prop} {x0 x1 x6 x7 x8 x9 x10 x11 x12 x13 x14 x15 x16 x17 x18 x19 x20 x21 x22 x23 x24 x25 x26 x27 x28 x29 x30 x31 x32 x33 x34 x35 x36 x37 x38 x39 x40 x41 x42 x43 x44 x45 x46 x47 x48 x49 x50 x51 : Value} {ds : List Deferred} {A : World} {p q : Nat} {x y : En} {D : List UInt8}
    (HP : Hid (Blk A p 37 x.cells ∧ Blk A q 37 y.cells)) (HX : Hid (x.ok ∧ y.ok ∧ D.length = 32 ∧ True)) (HRD : Hid (A.rangeAt q 4 (U D))) (HBX : Hid (∀ W, (Instr.build 37 #[(0, iv 1), (1, iv 1), (2, .string ⟨#[97, 110, 110]⟩), (3, .string ⟨#[109, 97, 100, 101, 32, 111, 114, 103]⟩)]).run Tryd.prog W = .ok (.agg x.cells.toArray) W)) (HEX : Hid (∀ W, (binOp .eql 37 (.agg x.cells.toArray) (.agg x.cells.toArray)).run Tryd.prog W = .ok (.bool true) W)) (HED : Hid (∀ W, (binOp .eql 35 (.agg (U D).toArray) (.agg (U D).toArray)).run Tryd.prog W = .ok (.bool true) W)) (HDG : Hid (∀ V, Below A.heap.size A V → Calls Tryd.prog 20 #[.agg x.cells.toArray] V fun e V2 => e = .returned (.agg (U D).toArray) ∧ Below V.heap.size V V2)) (HV1 : Hid (∀ V, Below A.heap.size A V → ∀ v, EsR V v [x, y] → Calls Tryd.prog 23 #[v] V fun e V2 => e = .returned (iv (-1)) ∧ Below V.heap.size V V2)) (HV2 : Hid (∀ V, Below A.heap.size A V → ∀ v, EsR V v [y] → Calls Tryd.prog 23 #[v] V fun e V2 => e = .returned (iv 0) ∧ Below V.heap.size V V2))
    (hQ : ∀ V1 n2 n1, Below A.heap.size A V1 → Q .normal { tmps := #[.bool true, x1, .pointer (some ⟨p, 0, none⟩), iv 0, .pointer (some ⟨q, 0, none⟩), iv 0, x6, x7, x8, x9, x10, x11, x12, x13, x14, x15, x16, iv 0, .bool true, .bool true, iv 0, .bool true, .bool true, .bool true, .agg x.cells.toArray, .agg x.cells.toArray, .bool true, .bool true, .bool true, .pointer (some ⟨q, 4, none⟩), .agg (U D).toArray, .agg x.cells.toArray, .agg (U D).toArray, .bool true, .bool true, .bool true, .agg x.cells.toArray, .agg y.cells.toArray, .slice (some ⟨n2, 0, none⟩) 2 2, iv (-1), .bool true, .bool true, .bool true, .agg y.cells.toArray, .slice (some ⟨n1, 0, none⟩) 1 1, iv 0, .bool true, .bool true, .bool true, .bool true, .bool true, .bool true], defers := ds } V1) :
    (Code.region 4 #[{ dst := some 17, op := Op.move (Operand.tmp 3), type := 30, pos := "law.go:15", after := #[], guard := none }, { dst := some 18, op := Op.binOp BinOp.eql 30 (Operand.tmp 17) (Operand.const (Value.int IntKind.i64 0)) 30, type := 4, pos := "law.go:15", after := #[{ on := 0, ground := Ground.data }], guard := none }, { dst := some 19, op := Op.move (Operand.tmp 18), type := 4, pos := "law.go:15", after := #[{ on := 1, ground := Ground.data }], guard := none }, { dst := some 20, op := Op.move (Operand.tmp 5), type := 30, pos := "law.go:15", after := #[{ on := 2, ground := Ground.guard }], guard := some (2, true) }, { dst := some 21, op := Op.binOp BinOp.eql 30 (Operand.tmp 20) (Operand.const (Value.int IntKind.i64 0)) 30, type := 4, pos := "law.go:15", after := #[{ on := 3, ground := Ground.data }, { on := 2, ground := Ground.guard }], guard := some (2, true) }, { dst := some 22, op := Op.pick (Operand.tmp 19) (Operand.tmp 21) (Operand.const (Value.bool false)), type := 4, pos := "law.go:15", after := #[{ on := 2, ground := Ground.data }, { on := 4, ground := Ground.data }], guard := none }, { dst := some 23, op := Op.move (Operand.tmp 22), type := 4, pos := "law.go:15", after := #[{ on := 5, ground := Ground.data }, { on := 2, ground := Ground.chain }], guard := none }, { dst := some 24, op := Op.load 37 (Operand.tmp 2), type := 37, pos := "law.go:15", after := #[{ on := 6, ground := Ground.guard }], guard := some (6, true) }, { dst := some 25, op := Op.build 37 #[(0, Operand.const (Value.int IntKind.i64 1)), (1, Operand.const (Value.int IntKind.i64 1)), (2, Operand.const (Value.string { data := #[97, 110, 110] })), (3, Operand.const (Value.string { data := #[109, 97, 100, 101, 32, 111, 114, 103] }))], type := 37, pos := "law.go:15", after := #[{ on := 6, ground := Ground.guard }], guard := some (6, true) }, { dst := some 26, op := Op.binOp BinOp.eql 37 (Operand.tmp 24) (Operand.tmp 25) 37, type := 4, pos := "law.go:15", after := #[{ on := 7, ground := Ground.data }, { on := 8, ground := Ground.data }, { on := 6, ground := Ground.guard }], guard := some (6, true) }, { dst := some 27, op := Op.pick (Operand.tmp 23) (Operand.tmp 26) (Operand.const (Value.bool false)), type := 4, pos := "law.go:15", after := #[{ on := 6, ground := Ground.data }, { on := 9, ground := Ground.data }], guard := none }, { dst := some 28, op := Op.move (Operand.tmp 27), type := 4, pos := "law.go:15", after := #[{ on := 10, ground := Ground.data }, { on := 6, ground := Ground.chain }], guard := none }, { dst := some 29, op := Op.fieldAddr 37 (Operand.tmp 4) 4, type := 0, pos := "law.go:15", after := #[{ on := 11, ground := Ground.guard }], guard := some (11, true) }, { dst := some 30, op := Op.load 35 (Operand.tmp 29), type := 35, pos := "law.go:15", after := #[{ on := 12, ground := Ground.data }, { on := 11, ground := Ground.guard }], guard := some (11, true) }, { dst := some 31, op := Op.load 37 (Operand.tmp 2), type := 37, pos := "law.go:15", after := #[{ on := 11, ground := Ground.guard }], guard := some (11, true) }, { dst := some 32, op := Op.call { callee := Callee.value (Operand.func 20), args := #[Operand.tmp 31], argTypes := #[37] }, type := 35, pos := "law.go:15", after := #[{ on := 14, ground := Ground.data }, { on := 11, ground := Ground.chain }, { on := 11, ground := Ground.guard }], guard := some (11, true) }, { dst := some 33, op := Op.binOp BinOp.eql 35 (Operand.tmp 30) (Operand.tmp 32) 35, type := 4, pos := "law.go:15", after := #[{ on := 13, ground := Ground.data }, { on := 15, ground := Ground.data }, { on := 11, ground := Ground.guard }], guard := some (11, true) }, { dst := some 34, op := Op.pick (Operand.tmp 28) (Operand.tmp 33) (Operand.const (Value.bool false)), type := 4, pos := "law.go:15", after := #[{ on := 11, ground := Ground.data }, { on := 16, ground := Ground.data }], guard := none }, { dst := some 35, op := Op.move (Operand.tmp 34), type := 4, pos := "law.go:15", after := #[{ on := 17, ground := Ground.data }, { on := 15, ground := Ground.chain }], guard := none }, { dst := some 36, op := Op.load 37 (Operand.tmp 2), type := 37, pos := "law.go:15", after := #[{ on := 18, ground := Ground.guard }], guard := some (18, true) }, { dst := some 37, op := Op.load 37 (Operand.tmp 4), type := 37, pos := "law.go:15", after := #[{ on := 18, ground := Ground.guard }], guard := some (18, true) }, { dst := some 38, op := Op.buildSlice 27 2 #[(0, Operand.tmp 36), (1, Operand.tmp 37)], type := 27, pos := "law.go:15", after := #[{ on := 19, ground := Ground.data }, { on := 20, ground := Ground.data }, { on := 18, ground := Ground.guard }], guard := some (18, true) }, { dst := some 39, op := Op.call { callee := Callee.value (Operand.func 23), args := #[Operand.tmp 38], argTypes := #[27] }, type := 3, pos := "law.go:15", after := #[{ on := 21, ground := Ground.data }, { on := 18, ground := Ground.chain }, { on := 18, ground := Ground.guard }], guard := some (18, true) }, { dst := some 40, op := Op.binOp BinOp.eql 3 (Operand.tmp 39) (Operand.const (Value.int IntKind.i64 (-1))) 3, type := 4, pos := "law.go:15", after := #[{ on := 22, ground := Ground.data }, { on := 18, ground := Ground.guard }], guard := some (18, true) }, { dst := some 41, op := Op.pick (Operand.tmp 35) (Operand.tmp 40) (Operand.const (Value.bool false)), type := 4, pos := "law.go:15", after := #[{ on := 18, ground := Ground.data }, { on := 23, ground := Ground.data }], guard := none }, { dst := some 42, op := Op.move (Operand.tmp 41), type := 4, pos := "law.go:15", after := #[{ on := 24, ground := Ground.data }, { on := 22, ground := Ground.chain }], guard := none }, { dst := some 43, op := Op.load 37 (Operand.tmp 4), type := 37, pos := "law.go:15", after := #[{ on := 25, ground := Ground.guard }], guard := some (25, true) }, { dst := some 44, op := Op.buildSlice 27 1 #[(0, Operand.tmp 43)], type := 27, pos := "law.go:15", after := #[{ on := 26, ground := Ground.data }, { on := 25, ground := Ground.guard }], guard := some (25, true) }, { dst := some 45, op := Op.call { callee := Callee.value (Operand.func 23), args := #[Operand.tmp 44], argTypes := #[27] }, type := 3, pos := "law.go:15", after := #[{ on := 27, ground := Ground.data }, { on := 25, ground := Ground.chain }, { on := 25, ground := Ground.guard }], guard := some (25, true) }, { dst := some 46, op := Op.binOp BinOp.eql 3 (Operand.tmp 45) (Operand.const (Value.int IntKind.i64 0)) 3, type := 4, pos := "law.go:15", after := #[{ on := 28, ground := Ground.data }, { on := 25, ground := Ground.guard }], guard := some (25, true) }, { dst := some 47, op := Op.pick (Operand.tmp 42) (Operand.tmp 46) (Operand.const (Value.bool false)), type := 4, pos := "law.go:15", after := #[{ on := 25, ground := Ground.data }, { on := 29, ground := Ground.data }], guard := none }, { dst := some 48, op := Op.move (Operand.tmp 47), type := 4, pos := "law.go:15", after := #[{ on := 30, ground := Ground.data }, { on := 28, ground := Ground.chain }], guard := none }, { dst := some 49, op := Op.pick (Operand.tmp 48) (Operand.const (Value.bool true)) (Operand.const (Value.bool false)), type := 4, pos := "law.go:15", after := #[{ on := 31, ground := Ground.data }], guard := none }, { dst := some 50, op := Op.move (Operand.tmp 49), type := 4, pos := "law.go:15", after := #[{ on := 32, ground := Ground.data }, { on := 31, ground := Ground.chain }], guard := none }, { dst := some 51, op := Op.pick (Operand.tmp 50) (Operand.const (Value.bool true)) (Operand.const (Value.bool false)), type := 4, pos := "law.go:15", after := #[{ on := 33, ground := Ground.data }], guard := none }, { dst := some 0, op := Op.assign (Operand.tmp 51), type := 4, pos := "law.go:15", after := #[{ on := 34, ground := Ground.data }, { on := 33, ground := Ground.chain }, { on := 0, ground := Ground.phase }, { on := 1, ground := Ground.phase }, { on := 2, ground := Ground.phase }, { on := 3, ground := Ground.phase }, { on := 4, ground := Ground.phase }, { on := 5, ground := Ground.phase }, { on := 6, ground := Ground.phase }, { on := 7, ground := Ground.phase }, { on := 8, ground := Ground.phase }, { on := 9, ground := Ground.phase }, { on := 10, ground := Ground.phase }, { on := 11, ground := Ground.phase }, { on := 12, ground := Ground.phase }, { on := 13, ground := Ground.phase }, { on := 14, ground := Ground.phase }, { on := 15, ground := Ground.phase }, { on := 16, ground := Ground.phase }, { on := 17, ground := Ground.phase }, { on := 18, ground := Ground.phase }, { on := 19, ground := Ground.phase }, { on := 20, ground := Ground.phase }, { on := 21, ground := Ground.phase }, { on := 22, ground := Ground.phase }, { on := 23, ground := Ground.phase }, { on := 24, ground := Ground.phase }, { on := 25, ground := Ground.phase }, { on := 26, ground := Ground.phase }, { on := 27, ground := Ground.phase }, { on := 28, ground := Ground.phase }, { on := 29, ground := Ground.phase }, { on := 30, ground := Ground.phase }, { on := 31, ground := Ground.phase }, { on := 32, ground := Ground.phase }, { on := 33, ground := Ground.phase }, { on := 34, ground := Ground.phase }], guard := none }] true).wp Tryd.prog Q { tmps := #[x0, x1, .pointer (some ⟨p, 0, none⟩), iv 0, .pointer (some ⟨q, 0, none⟩), iv 0, x6, x7, x8, x9, x10, x11, x12, x13, x14, x15, x16, x17, x18, x19, x20, x21, x22, x23, x24, x25, x26, x27, x28, x29, x30, x31, x32, x33, x34, x35, x36, x37, x38, x39, x40, x41, x42, x43, x44, x45, x46, x47, x48, x49, x50, x51], defers := ds } A := by
  refine Code.wp_mono (Q := fun x a' w' => match x with | .normal => Q .normal a' w' | _ => False) (by intro x a' w' h; cases x <;> first | exact h | exact h.elim) ?_
  refine wp_region_held (S := fun V => Below A.heap.size A V) (by kernel_rfl) ?_
  have hS0 : Hid (Below A.heap.size A A.drew) := below_drew0 A
  change wpAnyH Tryd.prog .any _ _ (fun V => Below A.heap.size A V) 36 (Array.replicate 36 false) _ A.drew
  obtain ⟨V0, hV0⟩ : ∃ V0, A.drew = V0 := ⟨_, rfl⟩
  rw [hV0]
  rw [hV0] at hS0
  clear hV0
  refine wpAnyH_take (i := 0) (oi := { dst := some 17, op := Op.move (Operand.tmp 3), type := 30, pos := "law.go:15", after := #[], guard := none }) (v := iv 0) rfl (by kernel_rfl) (by kernel_rfl) (by kernel_rfl) (fun _ _ _ h => h.elim) (Or.inl ⟨by rfl, ?y1⟩) hS0.out ?_
  case y1 =>
    intro V hV
    go_simp
  simp only [Act.put, List.setIfInBounds_toArray, List.set_cons_zero, List.set_cons_succ]
  refine wpAnyH_take (i := 1) (oi := { dst := some 18, op := Op.binOp BinOp.eql 30 (Operand.tmp 17) (Operand.const (Value.int IntKind.i64 0)) 30, type := 4, pos := "law.go:15", after := #[{ on := 0, ground := Ground.data }], guard := none }) (v := .bool true) rfl (by kernel_rfl) (by kernel_rfl) (by kernel_rfl) (fun _ _ _ h => h.elim) (Or.inl ⟨by rfl, ?y2⟩) hS0.out ?_
  case y2 =>
    intro V hV
    go_simp
  simp only [Act.put, List.setIfInBounds_toArray, List.set_cons_zero, List.set_cons_succ]
  refine wpAnyH_take (i := 2) (oi := { dst := some 19, op := Op.move (Operand.tmp 18), type := 4, pos := "law.go:15", after := #[{ on := 1, ground := Ground.data }], guard := none }) (v := .bool true) rfl (by kernel_rfl) (by kernel_rfl) (by kernel_rfl) (fun _ _ _ h => h.elim) (Or.inl ⟨by rfl, ?y3⟩) hS0.out ?_
  case y3 =>
    intro V hV
    go_simp
  simp only [Act.put, List.setIfInBounds_toArray, List.set_cons_zero, List.set_cons_succ]
  refine wpAnyH_take (i := 3) (oi := { dst := some 20, op := Op.move (Operand.tmp 5), type := 30, pos := "law.go:15", after := #[{ on := 2, ground := Ground.guard }], guard := some (2, true) }) (v := iv 0) rfl (by kernel_rfl) (by kernel_rfl) (by kernel_rfl) (fun _ _ _ h => h.elim) (Or.inl ⟨by rfl, ?y4⟩) hS0.out ?_
  case y4 =>
    intro V hV
    go_simp
  simp only [Act.put, List.setIfInBounds_toArray, List.set_cons_zero, List.set_cons_succ]
  refine wpAnyH_take (i := 4) (oi := { dst := some 21, op := Op.binOp BinOp.eql 30 (Operand.tmp 20) (Operand.const (Value.int IntKind.i64 0)) 30, type := 4, pos := "law.go:15", after := #[{ on := 3, ground := Ground.data }, { on := 2, ground := Ground.guard }], guard := some (2, true) }) (v := .bool true) rfl (by kernel_rfl) (by kernel_rfl) (by kernel_rfl) (fun _ _ _ h => h.elim) (Or.inl ⟨by rfl, ?y5⟩) hS0.out ?_
  case y5 =>
    intro V hV
    go_simp
  simp only [Act.put, List.setIfInBounds_toArray, List.set_cons_zero, List.set_cons_succ]
  refine wpAnyH_take (i := 5) (oi := { dst := some 22, op := Op.pick (Operand.tmp 19) (Operand.tmp 21) (Operand.const (Value.bool false)), type := 4, pos := "law.go:15", after := #[{ on := 2, ground := Ground.data }, { on := 4, ground := Ground.data }], guard := none }) (v := .bool true) rfl (by kernel_rfl) (by kernel_rfl) (by kernel_rfl) (fun _ _ _ h => h.elim) (Or.inl ⟨by rfl, ?y6⟩) hS0.out ?_
  case y6 =>
    intro V hV
    go_simp
  simp only [Act.put, List.setIfInBounds_toArray, List.set_cons_zero, List.set_cons_succ]
  refine wpAnyH_take (i := 6) (oi := { dst := some 23, op := Op.move (Operand.tmp 22), type := 4, pos := "law.go:15", after := #[{ on := 5, ground := Ground.data }, { on := 2, ground := Ground.chain }], guard := none }) (v := .bool true) rfl (by kernel_rfl) (by kernel_rfl) (by kernel_rfl) (fun _ _ _ h => h.elim) (Or.inl ⟨by rfl, ?y7⟩) hS0.out ?_
  case y7 =>
    intro V hV
    go_simp
  simp only [Act.put, List.setIfInBounds_toArray, List.set_cons_zero, List.set_cons_succ]
  refine wpAnyH_take (i := 7) (oi := { dst := some 24, op := Op.load 37 (Operand.tmp 2), type := 37, pos := "law.go:15", after := #[{ on := 6, ground := Ground.guard }], guard := some (6, true) }) (v := .agg x.cells.toArray) rfl (by kernel_rfl) (by kernel_rfl) (by kernel_rfl) (fun _ _ _ h => h.elim) (yieldsIf_load_mid (by rfl) _ _ rfl _ _ rfl (x.cells) _ (fun V hV => rangeAt_same (HP.out.1.range0) ((show Below A.heap.size A V from hV).block _ (HP.out.1.lt))) Tryd.underlying37 rfl (info37 HX.out.1)) hS0.out ?_
  simp only [Act.put, List.setIfInBounds_toArray, List.set_cons_zero, List.set_cons_succ]
  refine wpAnyH_take (i := 8) (oi := { dst := some 25, op := Op.build 37 #[(0, Operand.const (Value.int IntKind.i64 1)), (1, Operand.const (Value.int IntKind.i64 1)), (2, Operand.const (Value.string { data := #[97, 110, 110] })), (3, Operand.const (Value.string { data := #[109, 97, 100, 101, 32, 111, 114, 103] }))], type := 37, pos := "law.go:15", after := #[{ on := 6, ground := Ground.guard }], guard := some (6, true) }) (v := .agg x.cells.toArray) rfl (by kernel_rfl) (by kernel_rfl) (by kernel_rfl) (fun _ _ _ h => h.elim) (Or.inl ⟨by rfl, ?y8⟩) hS0.out ?_
  case y8 =>
    intro V hV
    exact yl_build4 V 37 _ _ _ _ _ _ _ _ _ rfl rfl rfl rfl rfl HBX.out
  simp only [Act.put, List.setIfInBounds_toArray, List.set_cons_zero, List.set_cons_succ]
  refine wpAnyH_take (i := 9) (oi := { dst := some 26, op := Op.binOp BinOp.eql 37 (Operand.tmp 24) (Operand.tmp 25) 37, type := 4, pos := "law.go:15", after := #[{ on := 7, ground := Ground.data }, { on := 8, ground := Ground.data }, { on := 6, ground := Ground.guard }], guard := some (6, true) }) (v := .bool true) rfl (by kernel_rfl) (by kernel_rfl) (by kernel_rfl) (fun _ _ _ h => h.elim) (Or.inl ⟨by rfl, ?y9⟩) hS0.out ?_
  case y9 =>
    intro V hV
    exact yl_eq37 V _ _ _ _ _ rfl rfl rfl HEX.out
  simp only [Act.put, List.setIfInBounds_toArray, List.set_cons_zero, List.set_cons_succ]
  refine wpAnyH_take (i := 10) (oi := { dst := some 27, op := Op.pick (Operand.tmp 23) (Operand.tmp 26) (Operand.const (Value.bool false)), type := 4, pos := "law.go:15", after := #[{ on := 6, ground := Ground.data }, { on := 9, ground := Ground.data }], guard := none }) (v := .bool true) rfl (by kernel_rfl) (by kernel_rfl) (by kernel_rfl) (fun _ _ _ h => h.elim) (Or.inl ⟨by rfl, ?y10⟩) hS0.out ?_
  case y10 =>
    intro V hV
    go_simp
  simp only [Act.put, List.setIfInBounds_toArray, List.set_cons_zero, List.set_cons_succ]
  refine wpAnyH_take (i := 11) (oi := { dst := some 28, op := Op.move (Operand.tmp 27), type := 4, pos := "law.go:15", after := #[{ on := 10, ground := Ground.data }, { on := 6, ground := Ground.chain }], guard := none }) (v := .bool true) rfl (by kernel_rfl) (by kernel_rfl) (by kernel_rfl) (fun _ _ _ h => h.elim) (Or.inl ⟨by rfl, ?y11⟩) hS0.out ?_
  case y11 =>
    intro V hV
    go_simp
  simp only [Act.put, List.setIfInBounds_toArray, List.set_cons_zero, List.set_cons_succ]
  refine wpAnyH_take (i := 12) (oi := { dst := some 29, op := Op.fieldAddr 37 (Operand.tmp 4) 4, type := 0, pos := "law.go:15", after := #[{ on := 11, ground := Ground.guard }], guard := some (11, true) }) (v := .pointer (some ⟨q, 4, none⟩)) rfl (by kernel_rfl) (by kernel_rfl) (by kernel_rfl) (fun _ _ _ h => h.elim) (Or.inl ⟨by rfl, ?y12⟩) hS0.out ?_
  case y12 =>
    intro V hV
    go_simp
  simp only [Act.put, List.setIfInBounds_toArray, List.set_cons_zero, List.set_cons_succ]
  refine wpAnyH_take (i := 13) (oi := { dst := some 30, op := Op.load 35 (Operand.tmp 29), type := 35, pos := "law.go:15", after := #[{ on := 12, ground := Ground.data }, { on := 11, ground := Ground.guard }], guard := some (11, true) }) (v := .agg (U D).toArray) rfl (by kernel_rfl) (by kernel_rfl) (by kernel_rfl) (fun _ _ _ h => h.elim) (yieldsIf_load_mid (by rfl) _ _ rfl _ _ rfl (U D) _ (fun V hV => rangeAt_same (HRD.out) ((show Below A.heap.size A V from hV).block _ (HP.out.2.lt))) Tryd.underlying35 rfl ((by rw [U_length, HX.out.2.2.1]; exact size35))) hS0.out ?_
  simp only [Act.put, List.setIfInBounds_toArray, List.set_cons_zero, List.set_cons_succ]
  refine wpAnyH_take (i := 14) (oi := { dst := some 31, op := Op.load 37 (Operand.tmp 2), type := 37, pos := "law.go:15", after := #[{ on := 11, ground := Ground.guard }], guard := some (11, true) }) (v := .agg x.cells.toArray) rfl (by kernel_rfl) (by kernel_rfl) (by kernel_rfl) (fun _ _ _ h => h.elim) (yieldsIf_load_mid (by rfl) _ _ rfl _ _ rfl (x.cells) _ (fun V hV => rangeAt_same (HP.out.1.range0) ((show Below A.heap.size A V from hV).block _ (HP.out.1.lt))) Tryd.underlying37 rfl (info37 HX.out.1)) hS0.out ?_
  simp only [Act.put, List.setIfInBounds_toArray, List.set_cons_zero, List.set_cons_succ]
  refine wpAnyH_ready (rs := [15]) (by kernel_rfl) (by simp) (AllReadyH.cons (i := 15) (o := { dst := some 32, op := Op.call { callee := Callee.value (Operand.func 20), args := #[Operand.tmp 31], argTypes := #[37] }, type := 35, pos := "law.go:15", after := #[{ on := 14, ground := Ground.data }, { on := 11, ground := Ground.chain }, { on := 11, ground := Ground.guard }], guard := some (11, true) }) rfl ?_ AllReadyH.nil)
  · intro K1 hK1
    rw [if_pos (by rfl)]
    have HC1 := HDG.out V0 hS0.out
    go_wp2_with fail
    refine HC1.mono ?_
    rintro e V1 ⟨rfl, hb1⟩
    dsimp only
    clear HC1
    have hS1 : Hid (Below A.heap.size A V1) := hS0.out.trans (hb1.mono hS0.out.size)
    clear hb1
    refine hK1.out _ _ hS1.out ?_
    clear hK1
    intro _
    try simp only [Act.put, List.setIfInBounds_toArray, List.set_cons_zero, List.set_cons_succ]
    refine wpAnyH_take (i := 16) (oi := { dst := some 33, op := Op.binOp BinOp.eql 35 (Operand.tmp 30) (Operand.tmp 32) 35, type := 4, pos := "law.go:15", after := #[{ on := 13, ground := Ground.data }, { on := 15, ground := Ground.data }, { on := 11, ground := Ground.guard }], guard := some (11, true) }) (v := .bool true) rfl (by kernel_rfl) (by kernel_rfl) (by kernel_rfl) (fun _ _ _ h => h.elim) (Or.inl ⟨by rfl, ?y13⟩) hS1.out ?_
    case y13 =>
      intro V hV
      exact yl_eq35 V _ _ _ _ _ rfl rfl rfl HED.out
    simp only [Act.put, List.setIfInBounds_toArray, List.set_cons_zero, List.set_cons_succ]
    refine wpAnyH_take (i := 17) (oi := { dst := some 34, op := Op.pick (Operand.tmp 28) (Operand.tmp 33) (Operand.const (Value.bool false)), type := 4, pos := "law.go:15", after := #[{ on := 11, ground := Ground.data }, { on := 16, ground := Ground.data }], guard := none }) (v := .bool true) rfl (by kernel_rfl) (by kernel_rfl) (by kernel_rfl) (fun _ _ _ h => h.elim) (Or.inl ⟨by rfl, ?y14⟩) hS1.out ?_
    case y14 =>
      intro V hV
      go_simp
    simp only [Act.put, List.setIfInBounds_toArray, List.set_cons_zero, List.set_cons_succ]
    refine wpAnyH_take (i := 18) (oi := { dst := some 35, op := Op.move (Operand.tmp 34), type := 4, pos := "law.go:15", after := #[{ on := 17, ground := Ground.data }, { on := 15, ground := Ground.chain }], guard := none }) (v := .bool true) rfl (by kernel_rfl) (by kernel_rfl) (by kernel_rfl) (fun _ _ _ h => h.elim) (Or.inl ⟨by rfl, ?y15⟩) hS1.out ?_
    case y15 =>
      intro V hV
      go_simp
    simp only [Act.put, List.setIfInBounds_toArray, List.set_cons_zero, List.set_cons_succ]
    refine wpAnyH_take (i := 19) (oi := { dst := some 36, op := Op.load 37 (Operand.tmp 2), type := 37, pos := "law.go:15", after := #[{ on := 18, ground := Ground.guard }], guard := some (18, true) }) (v := .agg x.cells.toArray) rfl (by kernel_rfl) (by kernel_rfl) (by kernel_rfl) (fun _ _ _ h => h.elim) (yieldsIf_load_mid (by rfl) _ _ rfl _ _ rfl (x.cells) _ (fun V hV => rangeAt_same (HP.out.1.range0) ((show Below A.heap.size A V from hV).block _ (HP.out.1.lt))) Tryd.underlying37 rfl (info37 HX.out.1)) hS1.out ?_
    simp only [Act.put, List.setIfInBounds_toArray, List.set_cons_zero, List.set_cons_succ]
    refine wpAnyH_take (i := 20) (oi := { dst := some 37, op := Op.load 37 (Operand.tmp 4), type := 37, pos := "law.go:15", after := #[{ on := 18, ground := Ground.guard }], guard := some (18, true) }) (v := .agg y.cells.toArray) rfl (by kernel_rfl) (by kernel_rfl) (by kernel_rfl) (fun _ _ _ h => h.elim) (yieldsIf_load_mid (by rfl) _ _ rfl _ _ rfl (y.cells) _ (fun V hV => rangeAt_same (HP.out.2.range0) ((show Below A.heap.size A V from hV).block _ (HP.out.2.lt))) Tryd.underlying37 rfl (info37 HX.out.2.1)) hS1.out ?_
    simp only [Act.put, List.setIfInBounds_toArray, List.set_cons_zero, List.set_cons_succ]
    refine wpAnyH_ready (rs := [21]) (by kernel_rfl) (by simp) (AllReadyH.cons (i := 21) (o := { dst := some 38, op := Op.buildSlice 27 2 #[(0, Operand.tmp 36), (1, Operand.tmp 37)], type := 27, pos := "law.go:15", after := #[{ on := 19, ground := Ground.data }, { on := 20, ground := Ground.data }, { on := 18, ground := Ground.guard }], guard := some (18, true) }) rfl ?_ AllReadyH.nil)
    · intro K1 hK1
      refine step_bs2 (by rfl) 27 (.tmp 36) (.tmp 37) _ _ rfl rfl rfl (run_bs2 x.cells y.cells (En.len HX.out.1) (En.len HX.out.2.1) _) ?_
      obtain ⟨V2, hv2⟩ : ∃ V, V1.alloc (.cells (x.cells ++ y.cells).toArray 37) = V := ⟨_, rfl⟩
      obtain ⟨q2, hq2⟩ : ∃ m, V1.heap.size = m := ⟨_, rfl⟩
      have hS2 : Hid (Below A.heap.size A V2) := by rw [← hv2]; exact below_tr hS1.out (below_al _ _)
      have hR2 : Hid (EsR V2 (.slice (some ⟨q2, 0, none⟩) 2 2) [x, y]) := by rw [← hv2, ← hq2]; exact esr_two HX.out.1 HX.out.2.1 (Blk.new V1 _ _).range0 (Blk.new V1 _ _).lt
      rw [hv2, hq2]
      clear hv2 hq2
      refine hK1.out _ _ hS2.out ?_
      clear hK1
      intro _
      try simp only [Act.put, List.setIfInBounds_toArray, List.set_cons_zero, List.set_cons_succ]
      refine wpAnyH_ready (rs := [22]) (by kernel_rfl) (by simp) (AllReadyH.cons (i := 22) (o := { dst := some 39, op := Op.call { callee := Callee.value (Operand.func 23), args := #[Operand.tmp 38], argTypes := #[27] }, type := 3, pos := "law.go:15", after := #[{ on := 21, ground := Ground.data }, { on := 18, ground := Ground.chain }, { on := 18, ground := Ground.guard }], guard := some (18, true) }) rfl ?_ AllReadyH.nil)
      · intro K1 hK1
        rw [if_pos (by rfl)]
        have HC3 := HV1.out V2 hS2.out _ hR2.out
        go_wp2_with fail
        refine HC3.mono ?_
        rintro e V3 ⟨rfl, hb3⟩
        dsimp only
        clear HC3
        have hS3 : Hid (Below A.heap.size A V3) := hS2.out.trans (hb3.mono hS2.out.size)
        clear hb3
        refine hK1.out _ _ hS3.out ?_
        clear hK1
        intro _
        try simp only [Act.put, List.setIfInBounds_toArray, List.set_cons_zero, List.set_cons_succ]
        refine wpAnyH_take (i := 23) (oi := { dst := some 40, op := Op.binOp BinOp.eql 3 (Operand.tmp 39) (Operand.const (Value.int IntKind.i64 (-1))) 3, type := 4, pos := "law.go:15", after := #[{ on := 22, ground := Ground.data }, { on := 18, ground := Ground.guard }], guard := some (18, true) }) (v := .bool true) rfl (by kernel_rfl) (by kernel_rfl) (by kernel_rfl) (fun _ _ _ h => h.elim) (Or.inl ⟨by rfl, ?y16⟩) hS3.out ?_
        case y16 =>
          intro V hV
          go_simp
        simp only [Act.put, List.setIfInBounds_toArray, List.set_cons_zero, List.set_cons_succ]
        refine wpAnyH_take (i := 24) (oi := { dst := some 41, op := Op.pick (Operand.tmp 35) (Operand.tmp 40) (Operand.const (Value.bool false)), type := 4, pos := "law.go:15", after := #[{ on := 18, ground := Ground.data }, { on := 23, ground := Ground.data }], guard := none }) (v := .bool true) rfl (by kernel_rfl) (by kernel_rfl) (by kernel_rfl) (fun _ _ _ h => h.elim) (Or.inl ⟨by rfl, ?y17⟩) hS3.out ?_
        case y17 =>
          intro V hV
          go_simp
        simp only [Act.put, List.setIfInBounds_toArray, List.set_cons_zero, List.set_cons_succ]
        refine wpAnyH_take (i := 25) (oi := { dst := some 42, op := Op.move (Operand.tmp 41), type := 4, pos := "law.go:15", after := #[{ on := 24, ground := Ground.data }, { on := 22, ground := Ground.chain }], guard := none }) (v := .bool true) rfl (by kernel_rfl) (by kernel_rfl) (by kernel_rfl) (fun _ _ _ h => h.elim) (Or.inl ⟨by rfl, ?y18⟩) hS3.out ?_
        case y18 =>
          intro V hV
          go_simp
        simp only [Act.put, List.setIfInBounds_toArray, List.set_cons_zero, List.set_cons_succ]
        refine wpAnyH_take (i := 26) (oi := { dst := some 43, op := Op.load 37 (Operand.tmp 4), type := 37, pos := "law.go:15", after := #[{ on := 25, ground := Ground.guard }], guard := some (25, true) }) (v := .agg y.cells.toArray) rfl (by kernel_rfl) (by kernel_rfl) (by kernel_rfl) (fun _ _ _ h => h.elim) (yieldsIf_load_mid (by rfl) _ _ rfl _ _ rfl (y.cells) _ (fun V hV => rangeAt_same (HP.out.2.range0) ((show Below A.heap.size A V from hV).block _ (HP.out.2.lt))) Tryd.underlying37 rfl (info37 HX.out.2.1)) hS3.out ?_
        simp only [Act.put, List.setIfInBounds_toArray, List.set_cons_zero, List.set_cons_succ]
        refine wpAnyH_ready (rs := [27]) (by kernel_rfl) (by simp) (AllReadyH.cons (i := 27) (o := { dst := some 44, op := Op.buildSlice 27 1 #[(0, Operand.tmp 43)], type := 27, pos := "law.go:15", after := #[{ on := 26, ground := Ground.data }, { on := 25, ground := Ground.guard }], guard := some (25, true) }) rfl ?_ AllReadyH.nil)
        · intro K1 hK1
          refine step_bs (by rfl) 27 (.tmp 43) _ rfl rfl (run_bs1 y.cells (En.len HX.out.2.1) _) ?_
          obtain ⟨V4, hv4⟩ : ∃ V, V3.alloc (.cells y.cells.toArray 37) = V := ⟨_, rfl⟩
          obtain ⟨q4, hq4⟩ : ∃ m, V3.heap.size = m := ⟨_, rfl⟩
          have hS4 : Hid (Below A.heap.size A V4) := by rw [← hv4]; exact below_tr hS3.out (below_al _ _)
          have hR4 : Hid (EsR V4 (.slice (some ⟨q4, 0, none⟩) 1 1) [y]) := by rw [← hv4, ← hq4]; exact esr_one HX.out.2.1 (Blk.new V3 _ _).range0 (Blk.new V3 _ _).lt
          rw [hv4, hq4]
          clear hv4 hq4
          refine hK1.out _ _ hS4.out ?_
          clear hK1
          intro _
          try simp only [Act.put, List.setIfInBounds_toArray, List.set_cons_zero, List.set_cons_succ]
          refine wpAnyH_ready (rs := [28]) (by kernel_rfl) (by simp) (AllReadyH.cons (i := 28) (o := { dst := some 45, op := Op.call { callee := Callee.value (Operand.func 23), args := #[Operand.tmp 44], argTypes := #[27] }, type := 3, pos := "law.go:15", after := #[{ on := 27, ground := Ground.data }, { on := 25, ground := Ground.chain }, { on := 25, ground := Ground.guard }], guard := some (25, true) }) rfl ?_ AllReadyH.nil)
          · intro K1 hK1
            rw [if_pos (by rfl)]
            have HC5 := HV2.out V4 hS4.out _ hR4.out
            go_wp2_with fail
            refine HC5.mono ?_
            rintro e V5 ⟨rfl, hb5⟩
            dsimp only
            clear HC5
            have hS5 : Hid (Below A.heap.size A V5) := hS4.out.trans (hb5.mono hS4.out.size)
            clear hb5
            refine hK1.out _ _ hS5.out ?_
            clear hK1
            intro _
            try simp only [Act.put, List.setIfInBounds_toArray, List.set_cons_zero, List.set_cons_succ]
            refine wpAnyH_take (i := 29) (oi := { dst := some 46, op := Op.binOp BinOp.eql 3 (Operand.tmp 45) (Operand.const (Value.int IntKind.i64 0)) 3, type := 4, pos := "law.go:15", after := #[{ on := 28, ground := Ground.data }, { on := 25, ground := Ground.guard }], guard := some (25, true) }) (v := .bool true) rfl (by kernel_rfl) (by kernel_rfl) (by kernel_rfl) (fun _ _ _ h => h.elim) (Or.inl ⟨by rfl, ?y19⟩) hS5.out ?_
            case y19 =>
              intro V hV
              go_simp
            simp only [Act.put, List.setIfInBounds_toArray, List.set_cons_zero, List.set_cons_succ]
            refine wpAnyH_take (i := 30) (oi := { dst := some 47, op := Op.pick (Operand.tmp 42) (Operand.tmp 46) (Operand.const (Value.bool false)), type := 4, pos := "law.go:15", after := #[{ on := 25, ground := Ground.data }, { on := 29, ground := Ground.data }], guard := none }) (v := .bool true) rfl (by kernel_rfl) (by kernel_rfl) (by kernel_rfl) (fun _ _ _ h => h.elim) (Or.inl ⟨by rfl, ?y20⟩) hS5.out ?_
            case y20 =>
              intro V hV
              go_simp
            simp only [Act.put, List.setIfInBounds_toArray, List.set_cons_zero, List.set_cons_succ]
            refine wpAnyH_take (i := 31) (oi := { dst := some 48, op := Op.move (Operand.tmp 47), type := 4, pos := "law.go:15", after := #[{ on := 30, ground := Ground.data }, { on := 28, ground := Ground.chain }], guard := none }) (v := .bool true) rfl (by kernel_rfl) (by kernel_rfl) (by kernel_rfl) (fun _ _ _ h => h.elim) (Or.inl ⟨by rfl, ?y21⟩) hS5.out ?_
            case y21 =>
              intro V hV
              go_simp
            simp only [Act.put, List.setIfInBounds_toArray, List.set_cons_zero, List.set_cons_succ]
            refine wpAnyH_take (i := 32) (oi := { dst := some 49, op := Op.pick (Operand.tmp 48) (Operand.const (Value.bool true)) (Operand.const (Value.bool false)), type := 4, pos := "law.go:15", after := #[{ on := 31, ground := Ground.data }], guard := none }) (v := .bool true) rfl (by kernel_rfl) (by kernel_rfl) (by kernel_rfl) (fun _ _ _ h => h.elim) (Or.inl ⟨by rfl, ?y22⟩) hS5.out ?_
            case y22 =>
              intro V hV
              go_simp
            simp only [Act.put, List.setIfInBounds_toArray, List.set_cons_zero, List.set_cons_succ]
            refine wpAnyH_take (i := 33) (oi := { dst := some 50, op := Op.move (Operand.tmp 49), type := 4, pos := "law.go:15", after := #[{ on := 32, ground := Ground.data }, { on := 31, ground := Ground.chain }], guard := none }) (v := .bool true) rfl (by kernel_rfl) (by kernel_rfl) (by kernel_rfl) (fun _ _ _ h => h.elim) (Or.inl ⟨by rfl, ?y23⟩) hS5.out ?_
            case y23 =>
              intro V hV
              go_simp
            simp only [Act.put, List.setIfInBounds_toArray, List.set_cons_zero, List.set_cons_succ]
            refine wpAnyH_take (i := 34) (oi := { dst := some 51, op := Op.pick (Operand.tmp 50) (Operand.const (Value.bool true)) (Operand.const (Value.bool false)), type := 4, pos := "law.go:15", after := #[{ on := 33, ground := Ground.data }], guard := none }) (v := .bool true) rfl (by kernel_rfl) (by kernel_rfl) (by kernel_rfl) (fun _ _ _ h => h.elim) (Or.inl ⟨by rfl, ?y24⟩) hS5.out ?_
            case y24 =>
              intro V hV
              go_simp
            simp only [Act.put, List.setIfInBounds_toArray, List.set_cons_zero, List.set_cons_succ]
            refine wpAnyH_take (i := 35) (oi := { dst := some 0, op := Op.assign (Operand.tmp 51), type := 4, pos := "law.go:15", after := #[{ on := 34, ground := Ground.data }, { on := 33, ground := Ground.chain }, { on := 0, ground := Ground.phase }, { on := 1, ground := Ground.phase }, { on := 2, ground := Ground.phase }, { on := 3, ground := Ground.phase }, { on := 4, ground := Ground.phase }, { on := 5, ground := Ground.phase }, { on := 6, ground := Ground.phase }, { on := 7, ground := Ground.phase }, { on := 8, ground := Ground.phase }, { on := 9, ground := Ground.phase }, { on := 10, ground := Ground.phase }, { on := 11, ground := Ground.phase }, { on := 12, ground := Ground.phase }, { on := 13, ground := Ground.phase }, { on := 14, ground := Ground.phase }, { on := 15, ground := Ground.phase }, { on := 16, ground := Ground.phase }, { on := 17, ground := Ground.phase }, { on := 18, ground := Ground.phase }, { on := 19, ground := Ground.phase }, { on := 20, ground := Ground.phase }, { on := 21, ground := Ground.phase }, { on := 22, ground := Ground.phase }, { on := 23, ground := Ground.phase }, { on := 24, ground := Ground.phase }, { on := 25, ground := Ground.phase }, { on := 26, ground := Ground.phase }, { on := 27, ground := Ground.phase }, { on := 28, ground := Ground.phase }, { on := 29, ground := Ground.phase }, { on := 30, ground := Ground.phase }, { on := 31, ground := Ground.phase }, { on := 32, ground := Ground.phase }, { on := 33, ground := Ground.phase }, { on := 34, ground := Ground.phase }], guard := none }) (v := .bool true) rfl (by kernel_rfl) (by kernel_rfl) (by kernel_rfl) (fun _ _ _ h => h.elim) (Or.inl ⟨by rfl, ?y25⟩) hS5.out ?_
            case y25 =>
              intro V hV
              go_simp
            simp only [Act.put, List.setIfInBounds_toArray, List.set_cons_zero, List.set_cons_succ]
            refine wpAnyH_done (by kernel_rfl) ?_ _
            exact hQ V5 _ _ hS5.out
end Go.Proofs.YtmmpafaegmejlaaDoor.Oct

/- Layer 19 (audit): the chapter's example. -/
namespace Go.Proofs.YtmmpafaegmejlaaDoor.Oct
open Go.RowKit Sha
set_option linter.unusedSimpArgs false
set_option linter.unusedVariables false

theorem dg_eq (D : List UInt8) (h : D.length = 32) (W : World) : (binOp .eql 35 (.agg (U D).toArray) (.agg (U D).toArray)).run Tryd.prog W = .ok (.bool true) W := by
  rw [eqHb D D h h]
  simp
theorem en_eq (x : En) (h : x.ok) (W : World) : (binOp .eql 37 (.agg x.cells.toArray) (.agg x.cells.toArray)).run Tryd.prog W = .ok (.bool true) W := by
  rw [eqB x x h h, (eqEn_iff x x).2 rfl]
theorem kt_lt {w : World} (h : ST w) : 0 < w.heap.size := h.1
set_option maxRecDepth 100000 in
set_option maxHeartbeats 2000000 in
theorem lives_is (w : World) (hk : KT w) (hs : ST w) : Calls Tryd.prog 10 #[] w fun e w' => e = .returned (.bool true) ∧ Below w.heap.size w w' := by
  have HK : Hid (KT w ∧ ST w) := ⟨hk, hs⟩
  obtain ⟨Z, hZ, HZ⟩ := zero37
  have HZL : Hid (Z.length = 36) := by show _ = _; rw [HZ.out]; exact En.len zE_ok
  clear hk hs HZ
  go_enter Tryd.func10, Tryd.ntmps10
  go_wp2_with fail
  refine (new_log w).mono ?_
  rintro e W1 ⟨L, c, rfl, hl, hb⟩
  have H1 : Hid (Lg W1 w.heap.size L c (.slice none 0 0) [] ∧ Below w.heap.size w W1) := ⟨hl.out, hb⟩
  clear hl hb
  go_wp2_with fail
  refine (append_is H1.out.1 (HK.out.1.below H1.out.2) (HK.out.2.below H1.out.2) H1.out.2.size 1 ⟨#[97, 110, 110]⟩ ⟨#[109, 97, 100, 101, 32, 111, 114, 103]⟩ (by decide) (by decide) (by decide)).mono ?_
  rintro e W2 ⟨rfl, v2, hl2, hp2, hk2⟩
  rw [nx1] at hl2 ⊢
  have H2 : Hid (Lg W2 w.heap.size L c v2 [xA] ∧ Below w.heap.size w W2) := by
    refine ⟨hl2, ?_⟩
    exact H1.out.2.trans (hk2.toBelow H1.out.2.size (fun k hk => hk.elim (fun e => by rw [e]; exact H1.out.1.bc) (fun e => (H1.out.1.row.lt e).1)))
  obtain ⟨g, hg⟩ : ∃ g, W2.heap.size = g := ⟨_, rfl⟩
  have HG : Hid (W2.heap.size = g ∧ w.heap.size ≤ g) := ⟨hg, by have := H2.out.2.size; omega⟩
  dsimp only
  obtain ⟨x, hx⟩ : ∃ x, xA = x := ⟨_, rfl⟩
  have HX : Hid (xA = x ∧ x.ok ∧ x.sz) := ⟨hx, by rw [← hx]; exact xA_ok.1, by rw [← hx]; exact xA_ok.2⟩
  rw [hx]
  clear hl2 hp2 hk2 H1 hx
  go_wp2_with (with_reducible change wpList _ _ _ ({ dst := none, op := Op.store 37 _ _, type := _, pos := _, after := _, guard := _ } :: _) _ _; refine Hid.out ?_)
  show wpList _ _ _ _ _ _
  refine wpList_store_blk rfl 37 (.tmp 2) (.tmp 10) rfl g 0 37 Z x.cells rfl rfl (by rw [← HG.out.1]; exact Blk.new W2 _ _) (by rw [HZL.out, En.len HX.out.2.1]; exact Nat.le_refl _) (info37 HX.out.2.1) (En.one _) ?_
  intro W3 hx3 hg3
  have H3 : Hid (Lg W3 w.heap.size L c v2 [xA] ∧ Below w.heap.size w W3 ∧ Blk W3 g 37 x.cells) := by
    have e := below_al W2 (.cells Z.toArray 37)
    have hgr := hg3.out
    have l1 := H2.out.1.below e
    have sz1 := HG.out.1
    refine ⟨l1.same (hgr.block L l1.lg.lt ?_) (hgr.block c l1.ch.lt ?_) (fun j hj => hgr.block j (l1.row.lt hj).2 ?_), below_gr (below_tr H2.out.2 e) hgr HG.out.2, blk_all hx3.out (by rw [HZL.out, En.len HX.out.2.1])⟩
    · have := H2.out.1.lg.lt; simp; omega
    · have := H2.out.1.ch.lt; simp; omega
    · have := (H2.out.1.row.lt hj).2; simp; omega
  have HLT : Hid (L < g ∧ c < g ∧ ∀ j, v2.ownBlock = some j → j < g) := by
    have sz1 := HG.out.1
    exact ⟨by have := H2.out.1.lg.lt; omega, by have := H2.out.1.ch.lt; omega, fun j hj => by have := (H2.out.1.row.lt hj).2; omega⟩
  clear hx3 hg3 hg H2
  go_wp2_with fail
  refine (append_is H3.out.1 (HK.out.1.below H3.out.2.1) (HK.out.2.below H3.out.2.1) H3.out.2.1.size 1 ⟨#[98, 111, 98]⟩ e0 (by decide) (by decide) (by decide)).mono ?_
  rintro e W4 ⟨rfl, v4, hl4, hp4, hk4⟩
  rw [nx2] at hl4 ⊢
  dsimp only
  obtain ⟨y, hy⟩ : ∃ y, yA = y := ⟨_, rfl⟩
  have HY : Hid (yA = y ∧ y.ok ∧ y.sz) := ⟨hy, by rw [← hy]; exact yA_ok.1, by rw [← hy]; exact yA_ok.2⟩
  have H4 : Hid (Below w.heap.size w W4 ∧ Blk W4 g 37 x.cells) := by
    refine ⟨H3.out.2.1.trans (hk4.toBelow H3.out.2.1.size (fun k hk => hk.elim (fun e => by rw [e]; exact H3.out.1.bc) (fun e => (H3.out.1.row.lt e).1))), hk4.blk H3.out.2.2 (fun k => k.elim (fun e => ?_) (fun e => ?_))⟩
    · have := HLT.out.2.1; omega
    · have := HLT.out.2.2 g e; omega
  obtain ⟨g4, hg4⟩ : ∃ g, W4.heap.size = g := ⟨_, rfl⟩
  have HG4 : Hid (W4.heap.size = g4 ∧ w.heap.size ≤ g4 ∧ g < g4) := ⟨hg4, by have := H4.out.1.size; omega, by have := H4.out.2.lt; omega⟩
  rw [hy]
  clear hl4 hp4 hk4 hy H3
  go_wp2_with (with_reducible change wpList _ _ _ ({ dst := none, op := Op.store 37 _ _, type := _, pos := _, after := _, guard := _ } :: _) _ _; refine Hid.out ?_)
  show wpList _ _ _ _ _ _
  refine wpList_store_blk rfl 37 (.tmp 4) (.tmp 15) rfl g4 0 37 Z y.cells rfl rfl (by rw [← HG4.out.1]; exact Blk.new W4 _ _) (by rw [HZL.out, En.len HY.out.2.1]; exact Nat.le_refl _) (info37 HY.out.2.1) (En.one _) ?_
  intro W5 hx5 hg5
  have H5 : Hid (Below w.heap.size w W5 ∧ Blk W5 g 37 x.cells ∧ Blk W5 g4 37 y.cells) := by
    have e := below_al W4 (.cells Z.toArray 37)
    exact ⟨below_gr (below_tr H4.out.1 e) hg5.out HG4.out.2.1, (H4.out.2.below e H4.out.2.lt).kept hg5.out (by have := HG4.out.2.2; simp; omega), blk_all hx5.out (by rw [HZL.out, En.len HY.out.2.1])⟩
  clear hx5 hg5 hg4 H4
  obtain ⟨D, hD⟩ : ∃ D, dgE x = D := ⟨_, rfl⟩
  have HD : Hid (dgE x = D ∧ D.length = 32 ∧ y.prev = D) := ⟨hD, by rw [← hD]; exact dgE_len x, by rw [← hD, ← HY.out.1, ← HX.out.1]; rfl⟩
  clear hD
  go_wp2_with fail
  refine lv4 (p := g) (q := g4) (x := x) (y := y) (D := D) ⟨H5.out.2.1, H5.out.2.2⟩ ⟨HX.out.2.1, HY.out.2.1, HD.out.2.1, trivial⟩ ?_ (fun W => by rw [← HX.out.1]; exact run_buildX W) (en_eq x HX.out.2.1) (dg_eq D HD.out.2.1) (fun V hV => ?_) (fun V hV v hv => ?_) (fun V hV v hv => ?_) ?_
  · have := H5.out.2.2.range 4 32
    rw [show (y.cells.drop 4).take 32 = U D from ?_] at this
    · exact this
    · rw [← HD.out.2.2]
      show (U y.prev).take 32 = U y.prev
      rw [List.take_of_length_le (by rw [U_length, HY.out.2.1.1]; omega)]
  · have hb := below_tr H5.out.1 hV
    exact digest_is x HX.out.2.1 HX.out.2.2 D HD.out.1 V (HK.out.1.below hb) (HK.out.2.below hb)
  · have hb := below_tr H5.out.1 hV
    refine verify_k ?_ hv (fun e he => ?_) (by simp) (HK.out.1.below hb) (HK.out.2.below hb)
    · rw [← HX.out.1, ← HY.out.1]; exact vf1
    · simp only [List.mem_cons, List.not_mem_nil, or_false] at he
      rcases he with rfl | rfl
      · exact HX.out.2.2
      · exact HY.out.2.2
  · have hb := below_tr H5.out.1 hV
    refine verify_k ?_ hv (fun e he => ?_) (by simp) (HK.out.1.below hb) (HK.out.2.below hb)
    · rw [← HY.out.1]; exact vf2
    · rw [List.mem_singleton.1 he]; exact HY.out.2.2
  intro W6 n2 n1 hb6
  have HF : Hid (Below w.heap.size w W6) := below_tr H5.out.1 hb6
  clear hb6
  go_wp2
  go_ret
  exact ⟨rfl, HF.out⟩
end Go.Proofs.YtmmpafaegmejlaaDoor.Oct

/- Layer 19 (audit): the laws' arguments. -/
namespace Go.Proofs.YtmmpafaegmejlaaDoor.Oct
open Go.RowKit Go.ChangeShapes Go.WideShapes Go.ChangeAt Go.Deep Sha
set_option maxRecDepth 100000
set_option linter.unusedSimpArgs false
set_option linter.unusedVariables false

theorem len4 {α : Type} {l : List α} (h : l.length = 4) : ∃ a0 a1 a2 a3, l = [a0, a1, a2, a3] := by
  rcases l with _ | ⟨a0, _ | ⟨a1, _ | ⟨a2, _ | ⟨a3, _ | ⟨z, l⟩⟩⟩⟩⟩ <;> simp at h
  exact ⟨a0, a1, a2, a3, rfl⟩
theorem len5 {α : Type} {l : List α} (h : l.length = 5) : ∃ a0 a1 a2 a3 a4, l = [a0, a1, a2, a3, a4] := by
  rcases l with _ | ⟨a0, _ | ⟨a1, _ | ⟨a2, _ | ⟨a3, _ | ⟨a4, _ | ⟨z, l⟩⟩⟩⟩⟩⟩ <;> simp at h
  exact ⟨a0, a1, a2, a3, a4, rfl⟩
theorem cut_at (cs : List Value) (a n b : Nat) (h : a + n = b) : cs.drop a = (cs.drop a).take n ++ cs.drop b := by
  subst h
  rw [← List.drop_drop, List.take_append_drop]
theorem cut_last (cs : List Value) (a n : Nat) (h : cs.length = a + n) : cs.drop a = (cs.drop a).take n := by
  rw [List.take_of_length_le (by rw [List.length_drop]; omega)]
theorem mem_weightsAll {H : Type} {P : Program} {e : TypeId} {d : DataW H} {n : Nat} (hn : n ∈ d.weights P e) : ∀ {ds : List (DataW H)}, d ∈ ds → n ∈ DataW.weightsAll P e ds
  | [], h => by cases h
  | d0 :: r, h => by
    simp only [DataW.weightsAll, List.mem_append]
    rcases List.mem_cons.1 h with rfl | h
    · exact .inl hn
    · exact .inr (mem_weightsAll hn h)
section
variable {H : Type} {enc : TypeId × Value → H} {w : World}
theorem view_hash {n : Nat} {cs : List Value} {x : DataW H × List MemPlace} (h : DataW.trod enc Tryd.prog w 0 (fun _ => true) true n 35 cs = some x) : ∃ hh : List UInt8, hh.length = 32 ∧ cs = U hh := by
  obtain ⟨xs, m, _, _, hl, hxl, hf⟩ := DataW.trod_array Tryd.underlying35 h
  have hl' : cs.length = 32 := by rw [hl]; kernel_rfl
  have c5 : Tryd.prog.cellsOf 5 = 1 := by kernel_rfl
  rw [c5] at hf
  have each : ∀ i, i < 32 → ∃ c : UInt8, cs[i]? = some (.int .u8 (c.toNat : Int)) := by
    intro i hi
    have h1 := hf i hi
    rw [List.getElem?_eq_getElem (by omega)] at h1
    obtain ⟨k, hk, _, hw⟩ := DataW.trod_int Tryd.underlying5 h1
    have hb := bounds_u8 hw
    refine ⟨UInt8.ofNat k.toNat, ?_⟩
    have : cs[i]? = some (.int .u8 k) := by
      rw [Nat.mul_one] at hk
      have := congrArg (·[0]?) hk
      simpa [List.getElem?_take, List.getElem?_drop] using this
    rw [this, UInt8.toNat_ofNat']
    congr 2
    omega
  obtain ⟨G, hG⟩ := choose_lt each
  refine ⟨(List.range 32).map G, by simp, ?_⟩
  apply List.ext_getElem?
  intro i
  by_cases hi : i < 32
  · rw [hG i hi]; simp [U, hi]
  · rw [List.getElem?_eq_none (by omega), List.getElem?_eq_none (by simp [U]; omega)]
/-- cells that were read are a range -/
theorem range_of_cells {b off n : Nat} {cs : List Value} (h : w.cells? 0 ⟨b, off, none⟩ n = some cs) : w.rangeAt b off cs := by
  obtain ⟨_, hlen, hcell⟩ := World.cells?_some h
  intro j v hj
  have hlt := (List.getElem?_eq_some_iff.1 hj).1
  have := hcell j (by omega)
  rw [Addr.add_lit] at this
  rw [← hj]
  exact this
/-- hashes that were read -/
theorem fld_str {n : Nat} {cs : List Value} {x : DataW H × List MemPlace} (h : DataW.trod enc Tryd.prog w 0 (fun _ => true) true n 9 cs = some x) (hx : ∀ k ∈ x.1.weights Tryd.prog 9, k ≤ reachBytes) :
    ∃ s : ByteArray, cs = [.string s] ∧ s.size ≤ 140737488355328 := by
  obtain ⟨s, hs, hd, _⟩ := DataW.trod_string Tryd.underlying9 h
  refine ⟨s, by simpa using hs, ?_⟩
  have hmem : s.size ∈ x.1.weights Tryd.prog 9 := by
    rw [hd]
    simp [DataW.weights]
  have := hx _ hmem
  simp only [reachBytes] at this
  omega
theorem cells_act {fuel : Nat} {cs : List Value} {x : DataW H × List MemPlace} (h : DataW.trod enc Tryd.prog w 0 (fun _ => true) true fuel 29 cs = some x) (hx : ∀ k ∈ x.1.weights Tryd.prog 29, k ≤ reachBytes) :
    ∃ (f0 : Int) (f1 : ByteArray) (f2 : ByteArray) (f3 : Bool), cs = [iv f0] ++ ([.string f1] ++ ([.string f2] ++ ([.bool f3]))) ∧ (-9223372036854775808 ≤ f0 ∧ f0 ≤ 9223372036854775807) ∧ f1.size ≤ 140737488355328 ∧ f2.size ≤ 140737488355328 ∧ True := by
  obtain ⟨ys, k, hk, hxy, hcl, hxl, hf⟩ := DataW.trod_struct Tryd.underlying29 h
  have hcl' : cs.length = 4 := by rw [hcl]; kernel_rfl
  have hxl' : ys.length = 4 := hxl
  obtain ⟨y0, y1, y2, y3, rfl⟩ := len4 hxl'
  have g0 := hf 0 _ rfl
  change DataW.trod enc Tryd.prog w 0 _ true k 3 ((cs.drop 0).take (Tryd.prog.cellsOf 3)) = some y0 at g0
  rw [show Tryd.prog.cellsOf 3 = 1 by kernel_rfl] at g0
  have w0 : ∀ q ∈ y0.1.weights Tryd.prog 3, q ≤ reachBytes := fun q hq => hx q (by
    rw [show x.1 = DataW.agg [y0.1, y1.1, y2.1, y3.1] from congrArg Prod.fst hxy]
    simp only [DataW.weights, Tryd.underlying29, DataW.weightsEach, List.map, List.mem_append]
    exact .inl hq)
  obtain ⟨f0, e0, _, b0⟩ := DataW.trod_int Tryd.underlying3 g0
  have b0 := bounds_i64 b0
  have g1 := hf 1 _ rfl
  change DataW.trod enc Tryd.prog w 0 _ true k 9 ((cs.drop 1).take (Tryd.prog.cellsOf 9)) = some y1 at g1
  rw [show Tryd.prog.cellsOf 9 = 1 by kernel_rfl] at g1
  have w1 : ∀ q ∈ y1.1.weights Tryd.prog 9, q ≤ reachBytes := fun q hq => hx q (by
    rw [show x.1 = DataW.agg [y0.1, y1.1, y2.1, y3.1] from congrArg Prod.fst hxy]
    simp only [DataW.weights, Tryd.underlying29, DataW.weightsEach, List.map, List.mem_append]
    exact .inr (.inl hq))
  obtain ⟨f1, e1, b1⟩ := fld_str g1 w1
  have g2 := hf 2 _ rfl
  change DataW.trod enc Tryd.prog w 0 _ true k 9 ((cs.drop 2).take (Tryd.prog.cellsOf 9)) = some y2 at g2
  rw [show Tryd.prog.cellsOf 9 = 1 by kernel_rfl] at g2
  have w2 : ∀ q ∈ y2.1.weights Tryd.prog 9, q ≤ reachBytes := fun q hq => hx q (by
    rw [show x.1 = DataW.agg [y0.1, y1.1, y2.1, y3.1] from congrArg Prod.fst hxy]
    simp only [DataW.weights, Tryd.underlying29, DataW.weightsEach, List.map, List.mem_append]
    exact .inr (.inr (.inl hq)))
  obtain ⟨f2, e2, b2⟩ := fld_str g2 w2
  have g3 := hf 3 _ rfl
  change DataW.trod enc Tryd.prog w 0 _ true k 4 ((cs.drop 3).take (Tryd.prog.cellsOf 4)) = some y3 at g3
  rw [show Tryd.prog.cellsOf 4 = 1 by kernel_rfl] at g3
  have w3 : ∀ q ∈ y3.1.weights Tryd.prog 4, q ≤ reachBytes := fun q hq => hx q (by
    rw [show x.1 = DataW.agg [y0.1, y1.1, y2.1, y3.1] from congrArg Prod.fst hxy]
    simp only [DataW.weights, Tryd.underlying29, DataW.weightsEach, List.map, List.mem_append]
    exact .inr (.inr (.inr (.inl hq))))
  obtain ⟨f3, e3, _⟩ := DataW.trod_bool Tryd.underlying4 g3
  have b3 : True := trivial
  refine ⟨f0, f1, f2, f3, ?_, b0, b1, b2, b3⟩
  refine (show cs = cs.drop 0 from rfl).trans ?_
  rw [cut_at cs 0 1 1 rfl, e0]
  refine congrArg (fun z : List Value => ([iv f0] : List Value) ++ z) ?_
  rw [cut_at cs 1 1 2 rfl, e1]
  refine congrArg (fun z : List Value => ([.string f1] : List Value) ++ z) ?_
  rw [cut_at cs 2 1 3 rfl, e2]
  refine congrArg (fun z : List Value => ([.string f2] : List Value) ++ z) ?_
  rw [cut_last cs 3 1 hcl', e3]
theorem cells_ent {fuel : Nat} {cs : List Value} {x : DataW H × List MemPlace} (h : DataW.trod enc Tryd.prog w 0 (fun _ => true) true fuel 37 cs = some x) (hx : ∀ k ∈ x.1.weights Tryd.prog 37, k ≤ reachBytes) :
    ∃ (f0 : Int) (f1 : Int) (f2 : ByteArray) (f3 : ByteArray) (f4 : List UInt8), cs = [iv f0] ++ ([iv f1] ++ ([.string f2] ++ ([.string f3] ++ (U f4)))) ∧ (-9223372036854775808 ≤ f0 ∧ f0 ≤ 9223372036854775807) ∧ (-9223372036854775808 ≤ f1 ∧ f1 ≤ 9223372036854775807) ∧ f2.size ≤ 140737488355328 ∧ f3.size ≤ 140737488355328 ∧ f4.length = 32 := by
  obtain ⟨ys, k, hk, hxy, hcl, hxl, hf⟩ := DataW.trod_struct Tryd.underlying37 h
  have hcl' : cs.length = 36 := by rw [hcl]; kernel_rfl
  have hxl' : ys.length = 5 := hxl
  obtain ⟨y0, y1, y2, y3, y4, rfl⟩ := len5 hxl'
  have g0 := hf 0 _ rfl
  change DataW.trod enc Tryd.prog w 0 _ true k 3 ((cs.drop 0).take (Tryd.prog.cellsOf 3)) = some y0 at g0
  rw [show Tryd.prog.cellsOf 3 = 1 by kernel_rfl] at g0
  have w0 : ∀ q ∈ y0.1.weights Tryd.prog 3, q ≤ reachBytes := fun q hq => hx q (by
    rw [show x.1 = DataW.agg [y0.1, y1.1, y2.1, y3.1, y4.1] from congrArg Prod.fst hxy]
    simp only [DataW.weights, Tryd.underlying37, DataW.weightsEach, List.map, List.mem_append]
    exact .inl hq)
  obtain ⟨f0, e0, _, b0⟩ := DataW.trod_int Tryd.underlying3 g0
  have b0 := bounds_i64 b0
  have g1 := hf 1 _ rfl
  change DataW.trod enc Tryd.prog w 0 _ true k 3 ((cs.drop 1).take (Tryd.prog.cellsOf 3)) = some y1 at g1
  rw [show Tryd.prog.cellsOf 3 = 1 by kernel_rfl] at g1
  have w1 : ∀ q ∈ y1.1.weights Tryd.prog 3, q ≤ reachBytes := fun q hq => hx q (by
    rw [show x.1 = DataW.agg [y0.1, y1.1, y2.1, y3.1, y4.1] from congrArg Prod.fst hxy]
    simp only [DataW.weights, Tryd.underlying37, DataW.weightsEach, List.map, List.mem_append]
    exact .inr (.inl hq))
  obtain ⟨f1, e1, _, b1⟩ := DataW.trod_int Tryd.underlying3 g1
  have b1 := bounds_i64 b1
  have g2 := hf 2 _ rfl
  change DataW.trod enc Tryd.prog w 0 _ true k 9 ((cs.drop 2).take (Tryd.prog.cellsOf 9)) = some y2 at g2
  rw [show Tryd.prog.cellsOf 9 = 1 by kernel_rfl] at g2
  have w2 : ∀ q ∈ y2.1.weights Tryd.prog 9, q ≤ reachBytes := fun q hq => hx q (by
    rw [show x.1 = DataW.agg [y0.1, y1.1, y2.1, y3.1, y4.1] from congrArg Prod.fst hxy]
    simp only [DataW.weights, Tryd.underlying37, DataW.weightsEach, List.map, List.mem_append]
    exact .inr (.inr (.inl hq)))
  obtain ⟨f2, e2, b2⟩ := fld_str g2 w2
  have g3 := hf 3 _ rfl
  change DataW.trod enc Tryd.prog w 0 _ true k 9 ((cs.drop 3).take (Tryd.prog.cellsOf 9)) = some y3 at g3
  rw [show Tryd.prog.cellsOf 9 = 1 by kernel_rfl] at g3
  have w3 : ∀ q ∈ y3.1.weights Tryd.prog 9, q ≤ reachBytes := fun q hq => hx q (by
    rw [show x.1 = DataW.agg [y0.1, y1.1, y2.1, y3.1, y4.1] from congrArg Prod.fst hxy]
    simp only [DataW.weights, Tryd.underlying37, DataW.weightsEach, List.map, List.mem_append]
    exact .inr (.inr (.inr (.inl hq))))
  obtain ⟨f3, e3, b3⟩ := fld_str g3 w3
  have g4 := hf 4 _ rfl
  change DataW.trod enc Tryd.prog w 0 _ true k 35 ((cs.drop 4).take (Tryd.prog.cellsOf 35)) = some y4 at g4
  rw [show Tryd.prog.cellsOf 35 = 32 by kernel_rfl] at g4
  have w4 : ∀ q ∈ y4.1.weights Tryd.prog 35, q ≤ reachBytes := fun q hq => hx q (by
    rw [show x.1 = DataW.agg [y0.1, y1.1, y2.1, y3.1, y4.1] from congrArg Prod.fst hxy]
    simp only [DataW.weights, Tryd.underlying37, DataW.weightsEach, List.map, List.mem_append]
    exact .inr (.inr (.inr (.inr (.inl hq)))))
  obtain ⟨f4, b4, e4⟩ := view_hash g4
  refine ⟨f0, f1, f2, f3, f4, ?_, b0, b1, b2, b3, b4⟩
  refine (show cs = cs.drop 0 from rfl).trans ?_
  rw [cut_at cs 0 1 1 rfl, e0]
  refine congrArg (fun z : List Value => ([iv f0] : List Value) ++ z) ?_
  rw [cut_at cs 1 1 2 rfl, e1]
  refine congrArg (fun z : List Value => ([iv f1] : List Value) ++ z) ?_
  rw [cut_at cs 2 1 3 rfl, e2]
  refine congrArg (fun z : List Value => ([.string f2] : List Value) ++ z) ?_
  rw [cut_at cs 3 1 4 rfl, e3]
  refine congrArg (fun z : List Value => ([.string f3] : List Value) ++ z) ?_
  rw [cut_last cs 4 32 hcl', e4]
/-- a call, told -/
structure ActV where
  tick : Int
  who : BA
  what : BA
  again : Bool
def ActV.cells (x : ActV) : List Value := [iv x.tick, .string x.who, .string x.what, .bool x.again]
def ActV.ok (x : ActV) : Prop := (-9223372036854775808 ≤ x.tick ∧ x.tick ≤ 9223372036854775807) ∧ x.who.size ≤ 140737488355328 ∧ x.what.size ≤ 140737488355328
instance : Inhabited ActV := ⟨⟨0, e0, e0, false⟩⟩
instance : Inhabited En := ⟨zE⟩
theorem view_act {fuel : Nat} {xs : Array Value} {x : DataW H × List MemPlace} (h : DataW.trod enc Tryd.prog w 0 (fun _ => true) true fuel 29 (Value.agg xs).cells.toList = some x) (hw : ∀ n ∈ x.1.weights Tryd.prog 29, n ≤ reachBytes) :
    ∃ q : ActV, xs = q.cells.toArray ∧ q.ok := by
  obtain ⟨f0, f1, f2, f3, e, b0, b1, b2, b3⟩ := cells_act h hw
  refine ⟨⟨f0, f1, f2, f3⟩, ?_, b0, b1, b2⟩
  have e' : xs.toList = ActV.cells ⟨f0, f1, f2, f3⟩ := by simpa [Value.cells, ActV.cells] using e
  rw [← e']
/-- a list of calls that came in -/
def ArgA (w : World) (a : Option Addr) (len cap : Nat) (l : List ActV) : Prop :=
  l.length = len ∧ len ≤ 140737488355328 ∧ (∀ x ∈ l, x.ok) ∧ (0 < len → ∃ b off, a = some ⟨b, off, none⟩ ∧ b < w.heap.size ∧ ∀ i x, l[i]? = some x → w.rangeAt b (off + i * 4) x.cells)
theorem view_acts {fuel : Nat} {a : Option Addr} {len cap : Nat} {x : DataW H × List MemPlace} (h : DataW.trod enc Tryd.prog w 0 (fun _ => true) true fuel 22 (Value.slice a len cap).cells.toList = some x) (hx : ∀ n ∈ x.1.weights Tryd.prog 22, n ≤ reachBytes) :
    ∃ l, ArgA w a len cap l := by
  rcases open_slice Tryd.underlying22 h with ⟨hcs, _⟩ | ⟨ad, l, c, m, n, D, Pl, hcs, _, hl, hm, hmm, hd, hr⟩
  · simp [Value.cells] at hcs
    obtain ⟨rfl, rfl, rfl⟩ := hcs
    exact ⟨[], rfl, by omega, by simp, fun h => absurd h (by omega)⟩
  · simp [Value.cells] at hcs
    obtain ⟨rfl, rfl, rfl⟩ := hcs
    have hw : (len + (m - len)) * 48 ∈ x.1.weights Tryd.prog 22 := by
      rw [hd]
      simp only [DataW.weights, Tryd.underlying22]
      rw [show Tryd.prog.bytesOf 29 = 48 by kernel_rfl]
      simp
    have hsz := hx _ hw
    simp only [reachBytes] at hsz
    simp at hmm
    have ce : Tryd.prog.cellsOf 29 = 4 := by kernel_rfl
    rw [ce] at hr
    have hsp : 0 < len → ad.spot = none := fun hp => by
      obtain ⟨cs, h1, _⟩ := hr 0 (by omega)
      obtain ⟨_, hlen, hcell⟩ := World.cells?_some h1
      have h0 := hcell 0 (by omega)
      rw [List.getElem?_eq_getElem (by omega)] at h0
      have := World.cell?_spot h0
      simpa [Addr.add] using this
    have each : ∀ i, i < len → ∃ x : ActV, x.ok ∧ ∃ b off, ad = ⟨b, off, none⟩ ∧ b < w.heap.size ∧ w.rangeAt b (off + i * 4) x.cells := by
      intro i hi
      obtain ⟨cs, h1, h2⟩ := hr i (by omega)
      obtain ⟨_, hlen, hcell⟩ := World.cells?_some h1
      have hmem : ∀ q ∈ (D i, Pl i).1.weights Tryd.prog 29, q ≤ reachBytes := fun q hq => by
        refine hx q ?_
        rw [hd]
        simp only [DataW.weights, Tryd.underlying22]
        exact List.mem_cons.2 (.inr (List.mem_append.2 (.inl (mem_weightsAll hq (List.mem_map.2 ⟨i, List.mem_range.2 hi, rfl⟩)))))
      obtain ⟨f0, f1, f2, f3, e, b0, b1, b2, b3⟩ := cells_act (x := (D i, Pl i)) h2 hmem
      have e' : cs = ActV.cells ⟨f0, f1, f2, f3⟩ := by simpa [ActV.cells] using e
      subst e'
      obtain ⟨b, off, spot⟩ := ad
      have hs := hsp (by omega)
      simp only at hs
      subst hs
      have hc0 := hcell 0 (by omega)
      rw [Addr.add_lit, Addr.add_lit] at hc0
      refine ⟨⟨f0, f1, f2, f3⟩, ⟨b0, b1, b2⟩, b, off, rfl, ?_, ?_⟩
      · have := World.block_lt_of_cell? w _ hc0
        simpa using this
      · intro j v hj
        have hj5 := (List.getElem?_eq_some_iff.1 hj).1
        have := hcell j (by omega)
        rw [Addr.add_lit, Addr.add_lit] at this
        rw [← hj]
        exact this
    have hsame : ∀ r ∈ (List.range len).map fun i => if h : i < len then (each i h).choose else default, r.ok := by
      intro r hr
      obtain ⟨i, hi, rfl⟩ := List.mem_map.1 hr
      have hlt := List.mem_range.1 hi
      rw [dif_pos hlt]
      exact (each i hlt).choose_spec.1
    have hrow : 0 < len → ∃ b off, some ad = some ⟨b, off, none⟩ ∧ b < w.heap.size ∧ ∀ i x, ((List.range len).map fun i => if h : i < len then (each i h).choose else default)[i]? = some x → w.rangeAt b (off + i * 4) x.cells := fun hp => by
      obtain ⟨_, _, b, off, e1, e2, _⟩ := each 0 hp
      refine ⟨b, off, by rw [e1], e2, fun i x hx => ?_⟩
      have hlt : i < len := by
        have := (List.getElem?_eq_some_iff.1 hx).1
        simpa using this
      have e : (each i hlt).choose = x := by simpa [List.getElem?_map, List.getElem?_range hlt, hlt] using hx
      obtain ⟨_, b', off', e3, _, e5⟩ := (each i hlt).choose_spec
      rw [e1] at e3
      cases e3
      rw [e] at e5
      exact e5
    exact ⟨_, by simp, by omega, hsame, hrow⟩
theorem view_ents {fuel : Nat} {a : Option Addr} {len cap : Nat} {x : DataW H × List MemPlace} (h : DataW.trod enc Tryd.prog w 0 (fun _ => true) true fuel 27 (Value.slice a len cap).cells.toList = some x) (hx : ∀ n ∈ x.1.weights Tryd.prog 27, n ≤ reachBytes) :
    ∃ l, l.length = len ∧ EsR w (.slice a l.length cap) l := by
  rcases open_slice Tryd.underlying27 h with ⟨hcs, _⟩ | ⟨ad, l, c, m, n, D, Pl, hcs, _, hl, hm, hmm, hd, hr⟩
  · simp [Value.cells] at hcs
    obtain ⟨rfl, rfl, rfl⟩ := hcs
    exact ⟨[], rfl, by simp, none, 0, rfl, Nat.le_refl _, by unfold maxLen; omega, fun h => absurd h (by simp)⟩
  · simp [Value.cells] at hcs
    obtain ⟨rfl, rfl, rfl⟩ := hcs
    have hw : (len + (m - len)) * 80 ∈ x.1.weights Tryd.prog 27 := by
      rw [hd]
      simp only [DataW.weights, Tryd.underlying27]
      rw [show Tryd.prog.bytesOf 37 = 80 by kernel_rfl]
      simp
    have hsz := hx _ hw
    simp only [reachBytes] at hsz
    simp at hmm
    have ce : Tryd.prog.cellsOf 37 = 36 := by kernel_rfl
    rw [ce] at hr
    have hsp : 0 < len → ad.spot = none := fun hp => by
      obtain ⟨cs, h1, _⟩ := hr 0 (by omega)
      obtain ⟨_, hlen, hcell⟩ := World.cells?_some h1
      have h0 := hcell 0 (by omega)
      rw [List.getElem?_eq_getElem (by omega)] at h0
      have := World.cell?_spot h0
      simpa [Addr.add] using this
    have each : ∀ i, i < len → ∃ x : En, x.ok ∧ ∃ b off, ad = ⟨b, off, none⟩ ∧ b < w.heap.size ∧ w.rangeAt b (off + i * 36) x.cells := by
      intro i hi
      obtain ⟨cs, h1, h2⟩ := hr i (by omega)
      obtain ⟨_, hlen, hcell⟩ := World.cells?_some h1
      have hmem : ∀ q ∈ (D i, Pl i).1.weights Tryd.prog 37, q ≤ reachBytes := fun q hq => by
        refine hx q ?_
        rw [hd]
        simp only [DataW.weights, Tryd.underlying27]
        exact List.mem_cons.2 (.inr (List.mem_append.2 (.inl (mem_weightsAll hq (List.mem_map.2 ⟨i, List.mem_range.2 hi, rfl⟩)))))
      obtain ⟨f0, f1, f2, f3, f4, e, b0, b1, b2, b3, b4⟩ := cells_ent (x := (D i, Pl i)) h2 hmem
      have e' : cs = En.cells ⟨f0, f1, f2, f3, f4⟩ := by simpa [En.cells] using e
      subst e'
      obtain ⟨b, off, spot⟩ := ad
      have hs := hsp (by omega)
      simp only at hs
      subst hs
      have hc0 := hcell 0 (by omega)
      rw [Addr.add_lit, Addr.add_lit] at hc0
      refine ⟨⟨f0, f1, f2, f3, f4⟩, ⟨b4, b0.2, b1.2, b2, b3⟩, b, off, rfl, ?_, ?_⟩
      · have := World.block_lt_of_cell? w _ hc0
        simpa using this
      · intro j v hj
        have hj5 := (List.getElem?_eq_some_iff.1 hj).1
        have := hcell j (by omega)
        rw [Addr.add_lit, Addr.add_lit] at this
        rw [← hj]
        exact this
    have hsame : ∀ r ∈ (List.range len).map fun i => if h : i < len then (each i h).choose else default, r.ok := by
      intro r hr
      obtain ⟨i, hi, rfl⟩ := List.mem_map.1 hr
      have hlt := List.mem_range.1 hi
      rw [dif_pos hlt]
      exact (each i hlt).choose_spec.1
    have hrow : 0 < len → ∃ b off, some ad = some ⟨b, off, none⟩ ∧ b < w.heap.size ∧ ∀ i x, ((List.range len).map fun i => if h : i < len then (each i h).choose else default)[i]? = some x → w.rangeAt b (off + i * 36) x.cells := fun hp => by
      obtain ⟨_, _, b, off, e1, e2, _⟩ := each 0 hp
      refine ⟨b, off, by rw [e1], e2, fun i x hx => ?_⟩
      have hlt : i < len := by
        have := (List.getElem?_eq_some_iff.1 hx).1
        simpa using this
      have e : (each i hlt).choose = x := by simpa [List.getElem?_map, List.getElem?_range hlt, hlt] using hx
      obtain ⟨_, b', off', e3, _, e5⟩ := (each i hlt).choose_spec
      rw [e1] at e3
      cases e3
      rw [e] at e5
      exact e5
    have hlen : ((List.range len).map fun i => if h : i < len then (each i h).choose else default).length = len := by simp
    refine ⟨_, hlen, hsame, some ad, cap, rfl, by rw [hlen]; omega, by first | exact hmm | exact hm | omega, fun hp => hrow (by rw [hlen] at hp; exact hp)⟩
end
end Go.Proofs.YtmmpafaegmejlaaDoor.Oct

/- Layer 19 (audit): the law AuditNobody. -/
namespace Go.Proofs.YtmmpafaegmejlaaDoor.Oct
open Go.RowKit Sha
set_option linter.unusedSimpArgs false
set_option linter.unusedVariables false

theorem wpList_built_want {P : Program} {ops : Array Oper} {rest : List Oper} {o : Oper} {a : Act} {w : World} {Q : Exit → Act → World → Prop} (hw : Region.wanted o (yielded ops a.tmps) = true) (t : TypeId) (parts : Array (Nat × Operand)) (ho : o.op = .build t parts)
    (cells : Array Value) (hb : P.built t (parts.map fun (i, x) => (i, a.eval x)).toList = some cells) (h : wpList P ops Q rest (a.put o.dst (.agg cells)) w) : wpList P ops Q (o :: rest) a w := by
  refine Go.BigFrame.wpList_want hw fun _ hK => wp_build t parts ho (by rw [hb]; rfl) (hK _ _ ?_)
  rw [hb]
  exact h
/-- a log that no call made -/
def Un (w : World) (p : Option Addr) : Prop := p = none ∨ ∃ L, p = some ⟨L, 0, none⟩ ∧ Blk w L 53 [.pointer none, .nilFunc]
theorem Un.below {w w' : World} {p : Option Addr} (h : Un w p) (hb : Below w.heap.size w w') : Un w' p := by
  rcases h with rfl | ⟨L, rfl, h⟩
  · exact .inl rfl
  · exact .inr ⟨L, rfl, h.below hb h.lt⟩
set_option maxRecDepth 100000 in
theorem made_un {w : World} {p : Option Addr} (h : Un w p) : Calls Tryd.prog 27 #[.pointer p] w fun e w' => e = .returned (.bool false) ∧ w = w' := by
  rcases h with rfl | ⟨L, rfl, h⟩
  · go_enter Tryd.func27, Tryd.ntmps27
    go_wp2
    go_ret
    exact ⟨rfl, rfl⟩
  · have c0 := h.cell (i := 0) rfl
    clear h
    go_enter Tryd.func27, Tryd.ntmps27
    go_wp2
    go_ret
    exact ⟨rfl, rfl⟩
set_option maxRecDepth 100000 in
theorem entries_un {w : World} {p : Option Addr} (h : Un w p) : Calls Tryd.prog 13 #[.pointer p] w fun e w' => e = .returned (.slice none 0 0) ∧ w = w' := by
  have H : Hid (Un w p) := h
  clear h
  go_enter Tryd.func13, Tryd.ntmps13
  go_wp2_with fail
  refine (made_un H.out).mono ?_
  rintro e X ⟨rfl, rfl⟩
  go_wp2
  go_ret
  exact ⟨rfl, rfl⟩
set_option maxRecDepth 100000 in
theorem head_un {w : World} {p : Option Addr} (h : Un w p) : Calls Tryd.prog 16 #[.pointer p] w fun e w' => e = .returned (.agg (zb 32).toArray) ∧ Below w.heap.size w w' := by
  obtain ⟨Z, hZ, HZ⟩ := zero35
  have HBL := built35
  obtain ⟨r, hr⟩ : ∃ r, w.heap.size = r := ⟨_, rfl⟩
  obtain ⟨A, hA⟩ : ∃ A, w.alloc (.cells Z.toArray 35) = A := ⟨_, rfl⟩
  have hb1 : Below w.heap.size w A := by rw [← hA]; exact below_al _ _
  have hrb : Blk A r 35 Z := by rw [← hA, ← hr]; exact Blk.new w _ _
  have H : Hid (Un A p ∧ Below w.heap.size w A ∧ Blk A r 35 Z ∧ w.heap.size ≤ r) := ⟨h.below hb1, hb1, hrb, by omega⟩
  clear h hb1 hrb
  go_enter Tryd.func16, Tryd.ntmps16
  go_wp2_with fail
  refine (made_un H.out.1).mono ?_
  rintro e X ⟨rfl, rfl⟩
  go_wp2_with (with_reducible change wpList _ _ _ ({ dst := some 6, op := _, type := _, pos := _, after := _, guard := _ } :: _) _ _; refine Hid.out ?_)
  show wpList _ _ _ _ _ _
  refine wpList_built rfl 35 _ rfl (zb 32).toArray (by rw [← HBL]; simp) ?_
  go_wp2_with (with_reducible change wpList _ _ _ ({ dst := none, op := Op.store 35 _ _, type := _, pos := _, after := _, guard := _ } :: _) _ _; refine Hid.out ?_)
  show wpList _ _ _ _ _ _
  refine wpList_store_blk rfl 35 (.tmp 2) (.tmp 6) rfl r 0 35 Z (zb 32) rfl rfl H.out.2.2.1 (by rw [HZ.out]; omega) (by rw [zb_length]; exact size35) (zb_one 32) ?_
  intro W1 hx hg
  have H1 : Hid (Blk W1 r 35 (zb 32) ∧ Below w.heap.size w W1) := ⟨blk_all hx.out (by rw [HZ.out]), below_gr H.out.2.1 hg.out H.out.2.2.2⟩
  clear hx hg hA hr
  go_wp2
  exact ret_c rfl rfl rfl H1.out.1 Tryd.underlying35 rfl (by rw [zb_length]; exact size35) ⟨rfl, H1.out.2⟩
set_option maxRecDepth 100000 in
theorem append_un {w : World} {p : Option Addr} (h : Un w p) (t x y : Value) : Calls Tryd.prog 14 #[.pointer p, t, x, y] w fun e w' => e = .returned (.tuple #[.agg zE.cells.toArray, iv 1]) ∧ Below w.heap.size w w' := by
  obtain ⟨Z, hZ, HZ⟩ := zero37
  have HBL := built37
  obtain ⟨r, hr⟩ : ∃ r, w.heap.size = r := ⟨_, rfl⟩
  obtain ⟨A, hA⟩ : ∃ A, w.alloc (.cells Z.toArray 37) = A := ⟨_, rfl⟩
  have hb1 : Below w.heap.size w A := by rw [← hA]; exact below_al _ _
  have hrb : Blk A r 37 Z := by rw [← hA, ← hr]; exact Blk.new w _ _
  have H : Hid (Un A p ∧ Below w.heap.size w A ∧ Blk A r 37 Z ∧ w.heap.size ≤ r) := ⟨h.below hb1, hb1, hrb, by omega⟩
  clear h hb1 hrb
  go_enter Tryd.func14, Tryd.ntmps14
  go_wp2_with fail
  refine (made_un H.out.1).mono ?_
  rintro e X ⟨rfl, rfl⟩
  go_wp2_with (with_reducible change wpList _ _ _ ({ dst := some 15, op := _, type := _, pos := _, after := _, guard := _ } :: _) _ _; refine Hid.out ?_)
  show wpList _ _ _ _ _ _
  refine wpList_built rfl 37 _ rfl zE.cells.toArray (by rw [← HBL]; simp) ?_
  go_wp2_with (with_reducible change wpList _ _ _ ({ dst := none, op := Op.store 37 _ _, type := _, pos := _, after := _, guard := _ } :: _) _ _; refine Hid.out ?_)
  show wpList _ _ _ _ _ _
  refine wpList_store_blk rfl 37 (.tmp 8) (.tmp 15) rfl r 0 37 Z zE.cells rfl rfl H.out.2.2.1 (by rw [HZ.out]; omega) (info37 zE_ok) (En.one _) ?_
  intro W1 hx hg
  have H1 : Hid (Blk W1 r 37 zE.cells ∧ Below w.heap.size w W1) := ⟨blk_all hx.out (by rw [HZ.out]), below_gr H.out.2.1 hg.out H.out.2.2.2⟩
  clear hx hg hA hr
  go_wp2
  exact ret_cu rfl rfl rfl H1.out.1 Tryd.underlying37 rfl (info37 zE_ok) ⟨rfl, H1.out.2⟩
theorem built53 : Tryd.prog.built 53 [] = some #[.pointer none, .nilFunc] := by kernel_rfl
theorem run_bs54 (L : Nat) (W : World) : (Instr.buildSlice 54 2 #[(0, .pointer none), (1, .pointer (some ⟨L, 0, none⟩))]).run Tryd.prog W = .ok (.slice (some ⟨W.heap.size, 0, none⟩) 2 2) (W.alloc (.cells #[.pointer none, .pointer (some ⟨L, 0, none⟩)] 25)) := by kernel_rfl
theorem ne_en (x : En) (h : x.ok) (W : World) : (binOp .neq 37 (.agg x.cells.toArray) (.agg x.cells.toArray)).run Tryd.prog W = .ok (.bool false) W := by
  rw [neE x x h h, (eqEn_iff x x).2 rfl]; rfl
theorem ne_zb (W : World) : (binOp .neq 35 (.agg (zb 32).toArray) (.agg (zb 32).toArray)).run Tryd.prog W = .ok (.bool false) W := by
  have h := neHb (List.replicate 32 0) (List.replicate 32 0) (by simp) (by simp) W
  rw [← zb_is] at h
  rw [h]
  simp
def NI (w : World) (b L s : Nat) (x : ActV) (wr : World) : Prop := Below w.heap.size w wr ∧ Blk wr b 29 x.cells ∧ Blk wr L 53 [.pointer none, .nilFunc] ∧ Blk wr s 25 [.pointer none, .pointer (some ⟨L, 0, none⟩)]
theorem NI.below {w wr wr' : World} {b L s : Nat} {x : ActV} (h : NI w b L s x wr) (hb : Below wr.heap.size wr wr') : NI w b L s x wr' := ⟨below_tr h.1 hb, h.2.1.below hb h.2.1.lt, h.2.2.1.below hb h.2.2.1.lt, h.2.2.2.below hb h.2.2.2.lt⟩
set_option maxRecDepth 100000 in
set_option maxHeartbeats 2000000 in
theorem nobody_law (x : ActV) (w : World) (hk : KT w) (hs : ST w) : Calls Tryd.prog 8 #[.agg x.cells.toArray] w fun e w' => e = .returned (.bool true) ∧ Below w.heap.size w w' := by
  have HK : Hid (KT w ∧ ST w) := ⟨hk, hs⟩
  obtain ⟨C, hC⟩ : ∃ C, x.cells = C := ⟨_, rfl⟩
  have HCC : Hid (x.cells = C) := hC
  obtain ⟨Z, hZ, HZ⟩ := zero37
  have HZL : Hid (Z.length = 36) := by show _ = _; rw [HZ.out]; exact En.len zE_ok
  have HBL := built37
  have HB5 := built35
  rw [hC]
  clear hk hs hC HZ
  go_enter Tryd.func8, Tryd.ntmps8
  go_wp2_with (with_reducible change wpList _ _ _ ({ dst := some 7, op := _, type := _, pos := _, after := _, guard := _ } :: _) _ _; refine Hid.out ?_)
  show wpList _ _ _ _ _ _
  refine wpList_built rfl 53 _ rfl #[.pointer none, .nilFunc] (by rw [← built53]; simp) ?_
  have hbs := run_bs54
  go_wp2
  obtain ⟨b, hb⟩ : ∃ b, w.heap.size = b := ⟨_, rfl⟩
  have HWB : Hid (w.heap.size = b) := hb
  obtain ⟨L, hL⟩ : ∃ L, w.heap.size + 1 = L := ⟨_, rfl⟩
  obtain ⟨s, hs⟩ : ∃ s, L + 1 = s := ⟨_, rfl⟩
  rw [hL, hs, hb]
  go_loopw [11] (fun u wr => ∃ i : Nat, u = iv (i : Int) ∧ Hid (i ≤ 2 ∧ NI w b L s x wr)) (fun u _ => 2 - (intOf u).toNat)
  case atStart =>
    refine ⟨0, rfl, by omega, ?_⟩
    have h1 : Blk (w.alloc (.cells C.toArray 29)) b 29 x.cells := by rw [HCC.out, ← hb]; exact Blk.new w _ _
    obtain ⟨w1, hw1⟩ : ∃ w1, w.alloc (.cells C.toArray 29) = w1 := ⟨_, rfl⟩
    have hz1 : w1.heap.size = L := by rw [← hw1, ← hL]; simp
    rw [hw1] at h1 ⊢
    have h2 : Blk (w1.alloc (.cells #[.pointer none, .nilFunc] 53)) L 53 [.pointer none, .nilFunc] := by rw [← hz1]; exact Blk.new w1 _ _
    have h1' := h1.below (below_al w1 (.cells #[.pointer none, .nilFunc] 53)) h1.lt
    obtain ⟨w2, hw2⟩ : ∃ w2, w1.alloc (.cells #[.pointer none, .nilFunc] 53) = w2 := ⟨_, rfl⟩
    have hz2 : w2.heap.size = s := by rw [← hw2, ← hs]; simp [hz1]
    rw [hw2] at h1' h2 ⊢
    have hb3 := below_al w2 (.cells #[.pointer none, .pointer (some ⟨L, 0, none⟩)] 25)
    refine ⟨?_, h1'.below hb3 h1'.lt, h2.below hb3 h2.lt, by rw [← hz2]; exact Blk.new w2 _ _⟩
    refine below_tr (below_tr (w1 := w1) ?_ ?_) hb3
    · rw [← hw1]; exact below_al _ _
    · rw [← hw2]; exact below_al _ _
  case round =>
    obtain ⟨i, rfl, HI⟩ := hrel
    clear hb hL hs
    by_cases hi : i = 2
    · subst hi
      have hkw := HK.out.1.below HI.out.2.1
      have hsw := HK.out.2.below HI.out.2.1
      have HKW : Hid (KT wr ∧ ST wr) := ⟨hkw, hsw⟩
      clear hkw hsw
      go_wp2_with fail
      refine (lives_is wr HKW.out.1 HKW.out.2).mono ?_
      rintro e X ⟨rfl, hbx⟩
      have HF : Hid (Below w.heap.size w X) := below_tr HI.out.2.1 hbx
      clear hbx
      go_wp2
      go_ret
      exact ⟨rfl, HF.out⟩
    · have q1 : (i : Int) < 2 := by have := HI.out.1; omega
      obtain ⟨p, hp, hun⟩ : ∃ p, wr.cell? ⟨s, i, none⟩ = some (.pointer p) ∧ Un wr p := by
        rcases (by omega : i = 0 ∨ i = 1) with rfl | rfl
        · exact ⟨none, HI.out.2.2.2.2.cell rfl, .inl rfl⟩
        · exact ⟨_, HI.out.2.2.2.2.cell rfl, .inr ⟨L, rfl, HI.out.2.2.2.1⟩⟩
      have HU : Hid (Un wr p ∧ i < 2) := ⟨hun, by omega⟩
      have c0 : wr.cell? ⟨b, 0, none⟩ = some (iv x.tick) := HI.out.2.2.1.cell rfl
      have c1 : wr.cell? ⟨b, 1, none⟩ = some (.string x.who) := HI.out.2.2.1.cell rfl
      have c2 : wr.cell? ⟨b, 2, none⟩ = some (.string x.what) := HI.out.2.2.1.cell rfl
      clear hi hun
      go_wp2_with fail
      refine (append_un HU.out.1 _ _ _).mono ?_
      rintro e X ⟨rfl, hbx⟩
      have HI2 : Hid (NI w b L s x X ∧ Un X p) := ⟨HI.out.2.below hbx, HU.out.1.below hbx⟩
      obtain ⟨g, hg⟩ : ∃ g, X.heap.size = g := ⟨_, rfl⟩
      have HG : Hid (X.heap.size = g) := hg
      clear hbx hp c0 c1 c2
      go_wp2_with (with_reducible change wpList _ _ _ ({ dst := none, op := Op.store 37 _ _, type := _, pos := _, after := _, guard := _ } :: _) _ _; refine Hid.out ?_)
      show wpList _ _ _ _ _ _
      refine wpList_store_blk rfl 37 (.tmp 5) (.tmp 24) rfl g 0 37 Z zE.cells rfl rfl (by rw [← HG.out]; exact Blk.new X _ _) (by rw [HZL.out, En.len zE_ok]; exact Nat.le_refl _) (info37 zE_ok) (En.one _) ?_
      intro W1 hx1 hg1
      have H1 : Hid (NI w b L s x W1 ∧ Un W1 p ∧ Blk W1 g 37 zE.cells) := by
        have hb1 : Below X.heap.size X W1 := below_gr (below_al X _) hg1.out (by rw [HG.out]; exact Nat.le_refl _)
        exact ⟨HI2.out.1.below hb1, HI2.out.2.below hb1, blk_all hx1.out (by rw [HZL.out, En.len zE_ok])⟩
      clear hx1 hg1 hg
      go_wp2_with (with_reducible change wpList _ _ _ ({ dst := some 26, op := _, type := _, pos := _, after := _, guard := _ } :: _) _ _; refine Hid.out ?_)
      show wpList _ _ _ _ _ _
      refine wpList_load_mid rfl 37 (.tmp 5) rfl g 0 rfl zE.cells _ H1.out.2.2.range0 Tryd.underlying37 rfl (info37 zE_ok) ?_
      go_wp2_with (with_reducible change wpList _ _ _ ({ dst := some 27, op := _, type := _, pos := _, after := _, guard := _ } :: _) _ _; refine Hid.out ?_)
      show wpList _ _ _ _ _ _
      refine wpList_built rfl 37 _ rfl zE.cells.toArray (by rw [← HBL]; simp) ?_
      have hne := ne_en zE zE_ok
      go_wp2_with fail
      refine (entries_un H1.out.2.1).mono ?_
      rintro e X2 ⟨rfl, rfl⟩
      go_wp2_with fail
      refine (head_un H1.out.2.1).mono ?_
      rintro e X3 ⟨rfl, hb3⟩
      have H3 : Hid (NI w b L s x X3) := H1.out.1.below hb3
      clear hb3 hne
      have hnz := ne_zb
      go_wp2_with (with_reducible change wpList _ _ _ ({ dst := some 42, op := _, type := _, pos := _, after := _, guard := _ } :: _) _ _; refine Hid.out ?_)
      show wpList _ _ _ _ _ _
      refine wpList_built_want rfl 35 _ rfl (zb 32).toArray (by rw [← HB5]; simp) ?_
      go_wp2
      go_roundw
      case rel => exact ⟨i + 1, rfl, by have := HU.out.2; omega, H3.out⟩
      case measure => show 2 - (i + 1) < 2 - i; have := HU.out.2; omega
end Go.Proofs.YtmmpafaegmejlaaDoor.Oct

/- Layer 19 (audit): few calls. -/
namespace Go.Proofs.YtmmpafaegmejlaaDoor.Oct
open Go.RowKit Sha
set_option linter.unusedSimpArgs false
set_option linter.unusedVariables false

theorem zero29 : ∃ Z : List Value, (∀ W, (zeroValue 29).run Tryd.prog W = .ok (.agg Z.toArray) W) ∧ Hid (Z.length = 4) := ⟨ActV.cells ⟨0, e0, e0, false⟩, fun W => by kernel_rfl, rfl⟩
theorem size29 (x : ActV) : (Tryd.prog.info? 29).map (·.size) = some x.cells.length := by show _ = some 4; kernel_rfl
theorem ActV.one (x : ActV) : ∀ v ∈ x.cells, v.oneCell' = true := by
  intro v hv
  simp only [ActV.cells, List.mem_cons, List.not_mem_nil, or_false] at hv
  rcases hv with rfl | rfl | rfl | rfl <;> rfl
set_option maxRecDepth 100000 in
set_option maxHeartbeats 2000000 in
theorem few_is {w : World} {a : Option Addr} {n cap : Nat} {l : List ActV} (h : ArgA w a n cap l) : Calls Tryd.prog 9 #[.slice a n cap] w fun e w' => ∃ b : Bool, e = .returned (.bool b) ∧ Hid (b = true → n ≤ 60) ∧ Below w.heap.size w w' := by
  have HA : Hid (ArgA w a n cap l) := h
  have qn : (n : Int) ≤ 140737488355328 := by have := h.2.1; omega
  obtain ⟨Z, hZ, HZ⟩ := zero29
  clear h
  go_enter Tryd.func9, Tryd.ntmps9
  go_wp2
  go_loopw [8, 3] (fun u t wr => ∃ (i : Nat) (m : Nat), u = iv (i : Int) ∧ t = iv (m : Int) ∧ m ≤ 60 ∧ Hid (i ≤ n ∧ i ≤ m ∧ Below w.heap.size w wr)) (fun u _ _ => n - (intOf u).toNat)
  case atStart => exact ⟨0, 0, rfl, rfl, by omega, Nat.zero_le _, Nat.zero_le _, Below.refl _ _⟩
  case round =>
    obtain ⟨i, m, rfl, rfl, hm, HI⟩ := hrel
    by_cases hi : i = n
    · have q1 : (n : Int) ≤ (i : Int) := by omega
      have HF : Hid (n ≤ 60 ∧ Below w.heap.size w wr) := ⟨by have := HI.out.2.1; omega, HI.out.2.2⟩
      clear hi HI
      go_wp2
      go_ret
      exact ⟨true, rfl, fun _ => HF.out.1, HF.out.2⟩
    · have hlt : i < n := by have := HI.out.1; omega
      have q1 : (i : Int) < (n : Int) := by omega
      obtain ⟨x, hx⟩ : ∃ x, l[i]? = some x := ⟨_, List.getElem?_eq_getElem (by rw [HA.out.1]; exact hlt)⟩
      obtain ⟨b, off, rfl, hb, hel⟩ := HA.out.2.2.2 (by omega)
      have hok := HA.out.2.2.1 x (List.mem_of_getElem? hx)
      have HX : Hid (wr.rangeAt b (off + i * 4) x.cells ∧ i < n) := ⟨rangeAt_same (hel i x hx) (HI.out.2.2.block b hb), hlt⟩
      obtain ⟨g5, hg5⟩ : ∃ g, wr.heap.size = g := ⟨_, rfl⟩
      have HG5 : Hid (wr.heap.size = g5 ∧ w.heap.size ≤ g5) := ⟨hg5, by have := HI.out.2.2.size; omega⟩
      have qw : (x.who.size : Int) ≤ 140737488355328 := by have := hok.2.1; omega
      have qt : (x.what.size : Int) ≤ 140737488355328 := by have := hok.2.2; omega
      obtain ⟨k, hk⟩ : ∃ k : Nat, ((x.who.size : Int) + x.what.size).tdiv 600 = (k : Int) := ⟨(x.who.size + x.what.size) / 600, by rw [← Int.natCast_add]; rfl⟩
      have qk : (k : Int) ≤ 281474976710656 := by
        rw [← hk, Int.tdiv_eq_ediv_of_nonneg (by omega)]
        omega
      have hok2 := hok
      clear hi hlt hx hel hb hok hok2
      go_wp2_with (with_reducible change wpList _ _ _ ({ dst := some 11, op := _, type := _, pos := _, after := _, guard := _ } :: _) _ _; refine Hid.out ?_)
      show wpList _ _ _ _ _ _
      refine wpList_load_mid rfl 29 (.tmp 10) rfl b (off + i * 4) rfl x.cells _ HX.out.1 Tryd.underlying29 rfl (size29 x) ?_
      go_wp2_with (with_reducible change wpList _ _ _ ({ dst := none, op := Op.store 29 _ _, type := _, pos := _, after := _, guard := _ } :: _) _ _; refine Hid.out ?_)
      show wpList _ _ _ _ _ _
      refine wpList_store_blk rfl 29 (.tmp 5) (.tmp 11) rfl g5 0 29 Z x.cells rfl rfl (by rw [← HG5.out.1]; exact Blk.new wr _ _) (by rw [HZ.out]; exact Nat.le_refl _) (size29 x) x.one ?_
      intro W1 hx1 hg1
      have H1 : Hid (Below w.heap.size w W1 ∧ Blk W1 g5 29 x.cells) := ⟨below_gr (below_tr HI.out.2.2 (below_al _ _)) hg1.out HG5.out.2, blk_all hx1.out (by rw [HZ.out]; rfl)⟩
      have c1 : W1.cell? ⟨g5, 1, none⟩ = some (.string x.who) := H1.out.2.cell rfl
      have c2 : W1.cell? ⟨g5, 2, none⟩ = some (.string x.what) := H1.out.2.cell rfl
      clear hx1 hg1 hg5
      by_cases hm2 : m + (1 + k) ≤ 60
      · have q3 : (m : Int) + (1 + (k : Int)) ≤ 60 := by omega
        have HF : Hid (i + 1 ≤ n ∧ i + 1 ≤ m + (1 + k) ∧ Below w.heap.size w W1) := ⟨HX.out.2, by have := HI.out.2.1; omega, H1.out.1⟩
        go_wp2
        go_roundw
        case rel => exact ⟨i + 1, m + (1 + k), rfl, rfl, hm2, HF.out⟩
        case measure => show n - (i + 1) < n - i; have := HX.out.2; omega
      · have q3 : 60 < (m : Int) + (1 + (k : Int)) := by omega
        clear hm2
        go_wp2
        go_ret
        exact ⟨false, rfl, (fun h => nomatch h), H1.out.1⟩
end Go.Proofs.YtmmpafaegmejlaaDoor.Oct
