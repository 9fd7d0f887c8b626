/-
  Layer 16 (token): did a book write a text?
-/
import Derived.Test.YtjeahlfmapacfaaDoorWrt
import Derived.Test.YtjeahlfmapacfaaDoorChecks
import Derived.Test.YtjeahlfmapacfaaDoorUnhexb
import Derived.Test.YtjeahlfmapacfaaDoorLst
import Derived.Deep.RegionHeld
import Derived.Deep.MidRow
namespace Go.Proofs.YtjeahlfmapacfaaDoor.Oct
open Go.RowKit Sha
set_option linter.unusedSimpArgs false
set_option linter.unusedVariables false

theorem hex_dig : ∀ x : Fin 16, digits.getD x.val 0 ≠ 46 := by decide +kernel
theorem hex_no : ∀ l : List UInt8, ∀ c ∈ hexOf l, c ≠ 46
  | [], c, h => by simp [hexOf] at h
  | x :: l, c, h => by
    have hx := x.toNat_lt
    simp only [hexOf, List.mem_cons] at h
    rcases h with rfl | rfl | h
    · exact hex_dig ⟨x.toNat / 16, by omega⟩
    · exact hex_dig ⟨x.toNat % 16, by omega⟩
    · exact hex_no l c h
theorem at_bang (X : BA) (j : Nat) (h : j < X.size) : X.data.toList[j]? = some (X.data[j]!) := by
  have h' : j < X.data.size := h
  rw [Array.getElem?_toList, Array.getElem?_eq_getElem h', getElem!_pos X.data j h']
/-- where the tag of a sealed text begins -/
theorem seal_at {X : BA} {S bd : List UInt8} (hX : X.data.toList = sealT S bd) : Lib.lastIndexByte X 46 = (bd.length : Int) := by
  have hl : X.size = bd.length + 1 + (hexOf (tagOf S bd)).length := by
    have : X.data.toList.length = X.size := rfl
    rw [← this, hX]
    unfold sealT
    simp
    omega
  have hm : X.data.toList[bd.length]? = some 46 := by rw [hX]; unfold sealT; rw [List.getElem?_append_right (Nat.le_refl _), Nat.sub_self]; rfl
  have hb : ((X.data[bd.length]!).toNat : Int) = 46 := by
    have h1 := at_bang X bd.length (by omega)
    rw [hm] at h1
    rw [← Option.some.inj h1]
    rfl
  have hn : ∀ j, bd.length < j → j < X.size → ((X.data[j]!).toNat : Int) ≠ 46 := by
    intro j h1 h2 h3
    have h4 := at_bang X j h2
    rw [hX] at h4
    unfold sealT at h4
    rw [List.getElem?_append_right (by omega)] at h4
    obtain ⟨k, rfl⟩ : ∃ k, j = bd.length + (k + 1) := ⟨j - bd.length - 1, by omega⟩
    rw [show bd.length + (k + 1) - bd.length = k + 1 by omega, List.getElem?_cons_succ] at h4
    have h5 := hex_no _ _ (List.mem_of_getElem? h4)
    exact h5 (UInt8.toNat_inj.1 (by show _ = 46; omega))
  rcases Lib.lastIndexByte_spec X 46 with ⟨_, h⟩ | ⟨i, hi, he, h1, h2⟩
  · exact absurd hb (h bd.length (by omega))
  · rw [he]
    rcases Nat.lt_trichotomy i bd.length with h | h | h
    · exact absurd hb (h2 bd.length h (by omega))
    · rw [h]
    · exact absurd h1 (hn i h hi)
theorem step_conv {P : Program} {w w' : World} {ops : Array Oper} {o : Oper} {a : Act} {K : Act → World → Prop} {Q : Exit → Act → World → Prop} {E : Prop} (hw : Region.wanted o (yielded ops a.tmps) = true) (x : Operand) (src dst : TypeId) (ho : o.op = .convert src dst x) (v v' : Value) (hx : a.eval x = v)
    (hr : (convert src dst v).run P w = .ok v' w') (h : K (a.put o.dst v') w') : if Region.wanted o (yielded ops a.tmps) = true then Oper.wp P o a w K Q else E := by
  rw [if_pos hw]
  unfold Oper.wp execOp
  simp only [ho, Sem.run_bind, Sem.run_pure, Result.andThen_ok, hx, hr]
  exact h
theorem yl_sl {o : Oper} {a : Act} (V : World) (x y : Operand) (X Y : BA) (i : Nat) (hop : o.op = .slice 9 x none (some y) none) (hx : a.eval x = .string X) (hy : a.eval y = iv (i : Int)) (hr : X.extract 0 i = Y ∧ i ≤ X.size) : (execOp a.eval o).run Tryd.prog V = .ok (.value (.string Y)) V := by
  obtain ⟨rfl, hi⟩ := hr
  have q1 : (i : Int) ≤ (X.size : Int) := by omega
  unfold execOp
  simp only [hop, Sem.run_bind, Sem.run_pure, Result.andThen_ok, hx, hy, Option.map_some, Option.map_none]
  go_simp
set_option maxRecDepth 100000 in
set_option maxHeartbeats 4000000 in
theorem wr5 {Q : Exit → Act → World → Prop} {x2 x3 x4 x8 x9 x10 x11 x12 x13 x14 x15 x16 x17 x18 x19 x20 x21 x22 x23 x24 x25 x26 x27 x28 x29 x30 x31 x32 x33 : Value} {ds : List Deferred} {A : World} {b i n cp : Nat} {a : Option Addr} {X Y : BA} {tv : Value} {R : Bool}
    (HL : Hid (b < A.heap.size)) (c0 : A.cell? ⟨b, 0, none⟩ = some (.slice a n cp)) (HZ : Hid (Y.size ≤ 20000)) (HSL : Hid (X.extract 0 i = Y ∧ i ≤ X.size)) (H41 : Hid (∀ V q cq, Below A.heap.size A V → In V (some ⟨q, 0, none⟩) Y.size cq Y.data.toList → Calls Tryd.prog 41 #[.slice a n cp, .slice (some ⟨q, 0, none⟩) Y.size cq, tv] V fun e V2 => e = .returned (.bool R) ∧ Below V.heap.size V V2))
    (hQ : ∀ V1 q1 cq, Below A.heap.size A V1 → Q .normal { tmps := #[.pointer (some ⟨b, 0, none⟩), .string X, x2, x3, .bool R, iv (i : Int), tv, iv 0, x8, x9, x10, x11, x12, x13, x14, x15, x16, x17, x18, x19, iv 0, .bool true, .bool true, .pointer (some ⟨b, 0, none⟩), .pointer (some ⟨b, 0, none⟩), .pointer (some ⟨b, 0, none⟩), .slice a n cp, .string X, iv (i : Int), .string Y, .slice (some ⟨q1, 0, none⟩) Y.size cq, tv, .bool R, .bool R], defers := ds } V1) :
    (Code.region 5 #[{ dst := some 20, op := Op.move (Operand.tmp 7), type := 33, pos := "text.go:28", after := #[], guard := none }, { dst := some 21, op := Op.binOp BinOp.eql 33 (Operand.tmp 20) (Operand.const (Value.int IntKind.i64 0)) 33, type := 4, pos := "text.go:28", after := #[{ on := 0, ground := Ground.data }], guard := none }, { dst := some 22, op := Op.move (Operand.tmp 21), type := 4, pos := "text.go:28", after := #[{ on := 1, ground := Ground.data }], guard := none }, { dst := some 23, op := Op.move (Operand.tmp 0), type := 26, pos := "text.go:28", after := #[{ on := 2, ground := Ground.guard }], guard := some (2, true) }, { dst := some 24, op := Op.nilCheck (Operand.tmp 23), type := 0, pos := "text.go:28", after := #[{ on := 3, ground := Ground.data }, { on := 2, ground := Ground.guard }], guard := some (2, true) }, { dst := some 25, op := Op.fieldAddr 57 (Operand.tmp 24) 0, type := 0, pos := "text.go:28", after := #[{ on := 4, ground := Ground.data }, { on := 2, ground := Ground.guard }], guard := some (2, true) }, { dst := some 26, op := Op.load 22 (Operand.tmp 25), type := 22, pos := "text.go:28", after := #[{ on := 5, ground := Ground.data }, { on := 2, ground := Ground.guard }], guard := some (2, true) }, { dst := some 27, op := Op.move (Operand.tmp 1), type := 9, pos := "text.go:28", after := #[{ on := 2, ground := Ground.guard }], guard := some (2, true) }, { dst := some 28, op := Op.move (Operand.tmp 5), type := 3, pos := "text.go:28", after := #[{ on := 2, ground := Ground.guard }], guard := some (2, true) }, { dst := some 29, op := Op.slice 9 (Operand.tmp 27) none (some (Operand.tmp 28)) none, type := 9, pos := "text.go:28", after := #[{ on := 7, ground := Ground.data }, { on := 8, ground := Ground.data }, { on := 2, ground := Ground.guard }], guard := some (2, true) }, { dst := some 30, op := Op.convert 9 22 (Operand.tmp 29), type := 22, pos := "text.go:28", after := #[{ on := 9, ground := Ground.data }, { on := 2, ground := Ground.guard }], guard := some (2, true) }, { dst := some 31, op := Op.move (Operand.tmp 6), type := 22, pos := "text.go:28", after := #[{ on := 2, ground := Ground.guard }], guard := some (2, true) }, { dst := some 32, op := Op.call { callee := Callee.value (Operand.func 41), args := #[Operand.tmp 26, Operand.tmp 30, Operand.tmp 31], argTypes := #[22, 22, 22] }, type := 4, pos := "text.go:28", after := #[{ on := 6, ground := Ground.data }, { on := 10, ground := Ground.data }, { on := 11, ground := Ground.data }, { on := 2, ground := Ground.chain }, { on := 2, ground := Ground.guard }], guard := some (2, true) }, { dst := some 33, op := Op.pick (Operand.tmp 22) (Operand.tmp 32) (Operand.const (Value.bool false)), type := 4, pos := "text.go:28", after := #[{ on := 2, ground := Ground.data }, { on := 12, ground := Ground.data }], guard := none }, { dst := some 4, op := Op.assign (Operand.tmp 33), type := 4, pos := "text.go:28", after := #[{ on := 13, ground := Ground.data }, { on := 12, ground := Ground.chain }, { on := 0, ground := Ground.phase }, { on := 1, ground := Ground.phase }, { on := 2, ground := Ground.phase }, { on := 3, ground := Ground.phase }, { on := 4, ground := Ground.phase }, { on := 5, ground := Ground.phase }, { on := 6, ground := Ground.phase }, { on := 7, ground := Ground.phase }, { on := 8, ground := Ground.phase }, { on := 9, ground := Ground.phase }, { on := 10, ground := Ground.phase }, { on := 11, ground := Ground.phase }, { on := 12, ground := Ground.phase }, { on := 13, ground := Ground.phase }], guard := none }] true).wp Tryd.prog Q { tmps := #[.pointer (some ⟨b, 0, none⟩), .string X, x2, x3, x4, iv (i : Int), tv, iv 0, x8, x9, x10, x11, x12, x13, x14, x15, x16, x17, x18, x19, x20, x21, x22, x23, x24, x25, x26, x27, x28, x29, x30, x31, x32, x33], defers := ds } A := by
  refine Code.wp_mono (Q := fun x a' w' => match x with | .normal => Q .normal a' w' | _ => False) (by intro x a' w' h; cases x <;> first | exact h | exact h.elim) ?_
  refine wp_region_held (S := fun V => Below A.heap.size A V) (by kernel_rfl) ?_
  have hS0 : Hid (Below A.heap.size A A.drew) := below_drew0 A
  change wpAnyH Tryd.prog .any _ _ (fun V => Below A.heap.size A V) 15 (Array.replicate 15 false) _ A.drew
  obtain ⟨V0, hV0⟩ : ∃ V0, A.drew = V0 := ⟨_, rfl⟩
  rw [hV0]
  rw [hV0] at hS0
  clear hV0
  refine wpAnyH_take (i := 0) (oi := { dst := some 20, op := Op.move (Operand.tmp 7), type := 33, pos := "text.go:28", after := #[], guard := none }) (v := iv 0) rfl (by kernel_rfl) (by kernel_rfl) (by kernel_rfl) (fun _ _ _ h => h.elim) (Or.inl ⟨by rfl, ?y1⟩) hS0.out ?_
  case y1 =>
    intro V hV
    go_simp
  simp only [Act.put, List.setIfInBounds_toArray, List.set_cons_zero, List.set_cons_succ]
  refine wpAnyH_take (i := 1) (oi := { dst := some 21, op := Op.binOp BinOp.eql 33 (Operand.tmp 20) (Operand.const (Value.int IntKind.i64 0)) 33, type := 4, pos := "text.go:28", after := #[{ on := 0, ground := Ground.data }], guard := none }) (v := .bool true) rfl (by kernel_rfl) (by kernel_rfl) (by kernel_rfl) (fun _ _ _ h => h.elim) (Or.inl ⟨by rfl, ?y2⟩) hS0.out ?_
  case y2 =>
    intro V hV
    go_simp
  simp only [Act.put, List.setIfInBounds_toArray, List.set_cons_zero, List.set_cons_succ]
  refine wpAnyH_take (i := 2) (oi := { dst := some 22, op := Op.move (Operand.tmp 21), type := 4, pos := "text.go:28", after := #[{ on := 1, ground := Ground.data }], guard := none }) (v := .bool true) rfl (by kernel_rfl) (by kernel_rfl) (by kernel_rfl) (fun _ _ _ h => h.elim) (Or.inl ⟨by rfl, ?y3⟩) hS0.out ?_
  case y3 =>
    intro V hV
    go_simp
  simp only [Act.put, List.setIfInBounds_toArray, List.set_cons_zero, List.set_cons_succ]
  refine wpAnyH_take (i := 3) (oi := { dst := some 23, op := Op.move (Operand.tmp 0), type := 26, pos := "text.go:28", after := #[{ on := 2, ground := Ground.guard }], guard := some (2, true) }) (v := .pointer (some ⟨b, 0, none⟩)) rfl (by kernel_rfl) (by kernel_rfl) (by kernel_rfl) (fun _ _ _ h => h.elim) (Or.inl ⟨by rfl, ?y4⟩) hS0.out ?_
  case y4 =>
    intro V hV
    go_simp
  simp only [Act.put, List.setIfInBounds_toArray, List.set_cons_zero, List.set_cons_succ]
  refine wpAnyH_take (i := 4) (oi := { dst := some 24, op := Op.nilCheck (Operand.tmp 23), type := 0, pos := "text.go:28", after := #[{ on := 3, ground := Ground.data }, { on := 2, ground := Ground.guard }], guard := some (2, true) }) (v := .pointer (some ⟨b, 0, none⟩)) rfl (by kernel_rfl) (by kernel_rfl) (by kernel_rfl) (fun _ _ _ h => h.elim) (Or.inl ⟨by rfl, ?y5⟩) hS0.out ?_
  case y5 =>
    intro V hV
    go_simp
  simp only [Act.put, List.setIfInBounds_toArray, List.set_cons_zero, List.set_cons_succ]
  refine wpAnyH_take (i := 5) (oi := { dst := some 25, op := Op.fieldAddr 57 (Operand.tmp 24) 0, type := 0, pos := "text.go:28", after := #[{ on := 4, ground := Ground.data }, { on := 2, ground := Ground.guard }], guard := some (2, true) }) (v := .pointer (some ⟨b, 0, none⟩)) rfl (by kernel_rfl) (by kernel_rfl) (by kernel_rfl) (fun _ _ _ h => h.elim) (Or.inl ⟨by rfl, ?y6⟩) hS0.out ?_
  case y6 =>
    intro V hV
    go_simp
  simp only [Act.put, List.setIfInBounds_toArray, List.set_cons_zero, List.set_cons_succ]
  refine wpAnyH_take (i := 6) (oi := { dst := some 26, op := Op.load 22 (Operand.tmp 25), type := 22, pos := "text.go:28", after := #[{ on := 5, ground := Ground.data }, { on := 2, ground := Ground.guard }], guard := some (2, true) }) (v := .slice a n cp) rfl (by kernel_rfl) (by kernel_rfl) (by kernel_rfl) (fun _ _ _ h => h.elim) (Or.inl ⟨by rfl, ?y7⟩) hS0.out ?_
  case y7 =>
    intro V hV
    have hc : V.cell? ⟨b, 0, none⟩ = some (.slice a n cp) := ((show Below A.heap.size A V from hV).cell (p := ⟨b, 0, none⟩) HL.out).trans c0
    go_simp
  simp only [Act.put, List.setIfInBounds_toArray, List.set_cons_zero, List.set_cons_succ]
  refine wpAnyH_take (i := 7) (oi := { dst := some 27, op := Op.move (Operand.tmp 1), type := 9, pos := "text.go:28", after := #[{ on := 2, ground := Ground.guard }], guard := some (2, true) }) (v := .string X) rfl (by kernel_rfl) (by kernel_rfl) (by kernel_rfl) (fun _ _ _ h => h.elim) (Or.inl ⟨by rfl, ?y8⟩) hS0.out ?_
  case y8 =>
    intro V hV
    go_simp
  simp only [Act.put, List.setIfInBounds_toArray, List.set_cons_zero, List.set_cons_succ]
  refine wpAnyH_take (i := 8) (oi := { dst := some 28, op := Op.move (Operand.tmp 5), type := 3, pos := "text.go:28", after := #[{ on := 2, ground := Ground.guard }], guard := some (2, true) }) (v := iv (i : Int)) rfl (by kernel_rfl) (by kernel_rfl) (by kernel_rfl) (fun _ _ _ h => h.elim) (Or.inl ⟨by rfl, ?y9⟩) hS0.out ?_
  case y9 =>
    intro V hV
    go_simp
  simp only [Act.put, List.setIfInBounds_toArray, List.set_cons_zero, List.set_cons_succ]
  refine wpAnyH_take (i := 9) (oi := { dst := some 29, op := Op.slice 9 (Operand.tmp 27) none (some (Operand.tmp 28)) none, type := 9, pos := "text.go:28", after := #[{ on := 7, ground := Ground.data }, { on := 8, ground := Ground.data }, { on := 2, ground := Ground.guard }], guard := some (2, true) }) (v := .string Y) rfl (by kernel_rfl) (by kernel_rfl) (by kernel_rfl) (fun _ _ _ h => h.elim) (Or.inl ⟨by rfl, ?y10⟩) hS0.out ?_
  case y10 =>
    intro V hV
    exact yl_sl V _ _ X Y i rfl rfl rfl HSL.out
  simp only [Act.put, List.setIfInBounds_toArray, List.set_cons_zero, List.set_cons_succ]
  refine wpAnyH_take (i := 11) (oi := { dst := some 31, op := Op.move (Operand.tmp 6), type := 22, pos := "text.go:28", after := #[{ on := 2, ground := Ground.guard }], guard := some (2, true) }) (v := tv) rfl (by kernel_rfl) (by kernel_rfl) (by kernel_rfl) (fun _ _ _ h => h.elim) (Or.inl ⟨by rfl, ?y11⟩) hS0.out ?_
  case y11 =>
    intro V hV
    go_simp
  simp only [Act.put, List.setIfInBounds_toArray, List.set_cons_zero, List.set_cons_succ]
  refine wpAnyH_ready (rs := [10]) (by kernel_rfl) (by simp) (AllReadyH.cons (i := 10) (o := { dst := some 30, op := Op.convert 9 22 (Operand.tmp 29), type := 22, pos := "text.go:28", after := #[{ on := 9, ground := Ground.data }, { on := 2, ground := Ground.guard }], guard := some (2, true) }) rfl ?_ AllReadyH.nil)
  · intro K1 hK1
    obtain ⟨cq, V1, hcv1, HIN1, -, HBW1, -⟩ := label_made (P := Tryd.prog) V0 9 22 5 Y Tryd.underlying9 Tryd.underlying22 Tryd.underlying5 (by have := HZ.out; omega)
    refine step_conv (by rfl) (.tmp 29) 9 22 rfl (.string Y) _ rfl hcv1 ?_
    obtain ⟨q1, hq1⟩ : ∃ m, V0.heap.size = m := ⟨_, rfl⟩
    rw [hq1] at HIN1
    rw [hq1]
    clear hcv1 hq1
    have hS1 : Hid (Below A.heap.size A V1) := hS0.out.trans (HBW1.out.mono hS0.out.size)
    clear HBW1
    refine hK1.out _ _ hS1.out ?_
    clear hK1
    intro _
    try simp only [Act.put, List.setIfInBounds_toArray, List.set_cons_zero, List.set_cons_succ]
    refine wpAnyH_ready (rs := [12]) (by kernel_rfl) (by simp) (AllReadyH.cons (i := 12) (o := { dst := some 32, op := Op.call { callee := Callee.value (Operand.func 41), args := #[Operand.tmp 26, Operand.tmp 30, Operand.tmp 31], argTypes := #[22, 22, 22] }, type := 4, pos := "text.go:28", after := #[{ on := 6, ground := Ground.data }, { on := 10, ground := Ground.data }, { on := 11, ground := Ground.data }, { on := 2, ground := Ground.chain }, { on := 2, ground := Ground.guard }], guard := some (2, true) }) rfl ?_ AllReadyH.nil)
    · intro K1 hK1
      rw [if_pos (by rfl)]
      have HC2 := H41.out V1 q1 cq hS1.out HIN1.out
      go_wp2_with fail
      refine HC2.mono ?_
      rintro e V2 ⟨rfl, hb2⟩
      dsimp only
      clear HC2
      have hS2 : Hid (Below A.heap.size A V2) := hS1.out.trans (hb2.mono hS1.out.size)
      clear hb2
      refine hK1.out _ _ hS2.out ?_
      clear hK1
      intro _
      try simp only [Act.put, List.setIfInBounds_toArray, List.set_cons_zero, List.set_cons_succ]
      refine wpAnyH_take (i := 13) (oi := { dst := some 33, op := Op.pick (Operand.tmp 22) (Operand.tmp 32) (Operand.const (Value.bool false)), type := 4, pos := "text.go:28", after := #[{ on := 2, ground := Ground.data }, { on := 12, ground := Ground.data }], guard := none }) (v := .bool R) rfl (by kernel_rfl) (by kernel_rfl) (by kernel_rfl) (fun _ _ _ h => h.elim) (Or.inl ⟨by rfl, ?y12⟩) hS2.out ?_
      case y12 =>
        intro V hV
        go_simp
      simp only [Act.put, List.setIfInBounds_toArray, List.set_cons_zero, List.set_cons_succ]
      refine wpAnyH_take (i := 14) (oi := { dst := some 4, op := Op.assign (Operand.tmp 33), type := 4, pos := "text.go:28", after := #[{ on := 13, ground := Ground.data }, { on := 12, ground := Ground.chain }, { on := 0, ground := Ground.phase }, { on := 1, ground := Ground.phase }, { on := 2, ground := Ground.phase }, { on := 3, ground := Ground.phase }, { on := 4, ground := Ground.phase }, { on := 5, ground := Ground.phase }, { on := 6, ground := Ground.phase }, { on := 7, ground := Ground.phase }, { on := 8, ground := Ground.phase }, { on := 9, ground := Ground.phase }, { on := 10, ground := Ground.phase }, { on := 11, ground := Ground.phase }, { on := 12, ground := Ground.phase }, { on := 13, ground := Ground.phase }], guard := none }) (v := .bool R) rfl (by kernel_rfl) (by kernel_rfl) (by kernel_rfl) (fun _ _ _ h => h.elim) (Or.inl ⟨by rfl, ?y13⟩) hS2.out ?_
      case y13 =>
        intro V hV
        go_simp
      simp only [Act.put, List.setIfInBounds_toArray, List.set_cons_zero, List.set_cons_succ]
      refine wpAnyH_done (by kernel_rfl) ?_ _
      exact hQ V2 q1 cq hS2.out
#print axioms wr5
set_option maxRecDepth 100000 in
set_option maxHeartbeats 4000000 in
theorem wr5n {Q : Exit → Act → World → Prop} {x2 x3 x4 x8 x9 x10 x11 x12 x13 x14 x15 x16 x17 x18 x19 x20 x21 x22 x23 x24 x25 x26 x27 x28 x29 x30 x31 x32 x33 : Value} {ds : List Deferred} {A : World} {b i : Nat} {X : BA} {tv : Value}
    
    (hQ : ∀ V1, Below A.heap.size A V1 → Q .normal { tmps := #[.pointer (some ⟨b, 0, none⟩), .string X, x2, x3, .bool false, iv (i : Int), tv, iv 20, x8, x9, x10, x11, x12, x13, x14, x15, x16, x17, x18, x19, iv 20, .bool false, .bool false, undef, undef, undef, undef, undef, undef, undef, undef, undef, undef, .bool false], defers := ds } V1) :
    (Code.region 5 #[{ dst := some 20, op := Op.move (Operand.tmp 7), type := 33, pos := "text.go:28", after := #[], guard := none }, { dst := some 21, op := Op.binOp BinOp.eql 33 (Operand.tmp 20) (Operand.const (Value.int IntKind.i64 0)) 33, type := 4, pos := "text.go:28", after := #[{ on := 0, ground := Ground.data }], guard := none }, { dst := some 22, op := Op.move (Operand.tmp 21), type := 4, pos := "text.go:28", after := #[{ on := 1, ground := Ground.data }], guard := none }, { dst := some 23, op := Op.move (Operand.tmp 0), type := 26, pos := "text.go:28", after := #[{ on := 2, ground := Ground.guard }], guard := some (2, true) }, { dst := some 24, op := Op.nilCheck (Operand.tmp 23), type := 0, pos := "text.go:28", after := #[{ on := 3, ground := Ground.data }, { on := 2, ground := Ground.guard }], guard := some (2, true) }, { dst := some 25, op := Op.fieldAddr 57 (Operand.tmp 24) 0, type := 0, pos := "text.go:28", after := #[{ on := 4, ground := Ground.data }, { on := 2, ground := Ground.guard }], guard := some (2, true) }, { dst := some 26, op := Op.load 22 (Operand.tmp 25), type := 22, pos := "text.go:28", after := #[{ on := 5, ground := Ground.data }, { on := 2, ground := Ground.guard }], guard := some (2, true) }, { dst := some 27, op := Op.move (Operand.tmp 1), type := 9, pos := "text.go:28", after := #[{ on := 2, ground := Ground.guard }], guard := some (2, true) }, { dst := some 28, op := Op.move (Operand.tmp 5), type := 3, pos := "text.go:28", after := #[{ on := 2, ground := Ground.guard }], guard := some (2, true) }, { dst := some 29, op := Op.slice 9 (Operand.tmp 27) none (some (Operand.tmp 28)) none, type := 9, pos := "text.go:28", after := #[{ on := 7, ground := Ground.data }, { on := 8, ground := Ground.data }, { on := 2, ground := Ground.guard }], guard := some (2, true) }, { dst := some 30, op := Op.convert 9 22 (Operand.tmp 29), type := 22, pos := "text.go:28", after := #[{ on := 9, ground := Ground.data }, { on := 2, ground := Ground.guard }], guard := some (2, true) }, { dst := some 31, op := Op.move (Operand.tmp 6), type := 22, pos := "text.go:28", after := #[{ on := 2, ground := Ground.guard }], guard := some (2, true) }, { dst := some 32, op := Op.call { callee := Callee.value (Operand.func 41), args := #[Operand.tmp 26, Operand.tmp 30, Operand.tmp 31], argTypes := #[22, 22, 22] }, type := 4, pos := "text.go:28", after := #[{ on := 6, ground := Ground.data }, { on := 10, ground := Ground.data }, { on := 11, ground := Ground.data }, { on := 2, ground := Ground.chain }, { on := 2, ground := Ground.guard }], guard := some (2, true) }, { dst := some 33, op := Op.pick (Operand.tmp 22) (Operand.tmp 32) (Operand.const (Value.bool false)), type := 4, pos := "text.go:28", after := #[{ on := 2, ground := Ground.data }, { on := 12, ground := Ground.data }], guard := none }, { dst := some 4, op := Op.assign (Operand.tmp 33), type := 4, pos := "text.go:28", after := #[{ on := 13, ground := Ground.data }, { on := 12, ground := Ground.chain }, { on := 0, ground := Ground.phase }, { on := 1, ground := Ground.phase }, { on := 2, ground := Ground.phase }, { on := 3, ground := Ground.phase }, { on := 4, ground := Ground.phase }, { on := 5, ground := Ground.phase }, { on := 6, ground := Ground.phase }, { on := 7, ground := Ground.phase }, { on := 8, ground := Ground.phase }, { on := 9, ground := Ground.phase }, { on := 10, ground := Ground.phase }, { on := 11, ground := Ground.phase }, { on := 12, ground := Ground.phase }, { on := 13, ground := Ground.phase }], guard := none }] true).wp Tryd.prog Q { tmps := #[.pointer (some ⟨b, 0, none⟩), .string X, x2, x3, x4, iv (i : Int), tv, iv 20, x8, x9, x10, x11, x12, x13, x14, x15, x16, x17, x18, x19, x20, x21, x22, x23, x24, x25, x26, x27, x28, x29, x30, x31, x32, x33], defers := ds } A := by
  refine Code.wp_mono (Q := fun x a' w' => match x with | .normal => Q .normal a' w' | _ => False) (by intro x a' w' h; cases x <;> first | exact h | exact h.elim) ?_
  refine wp_region_held (S := fun V => Below A.heap.size A V) (by kernel_rfl) ?_
  have hS0 : Hid (Below A.heap.size A A.drew) := below_drew0 A
  change wpAnyH Tryd.prog .any _ _ (fun V => Below A.heap.size A V) 15 (Array.replicate 15 false) _ A.drew
  obtain ⟨V0, hV0⟩ : ∃ V0, A.drew = V0 := ⟨_, rfl⟩
  rw [hV0]
  rw [hV0] at hS0
  clear hV0
  refine wpAnyH_take (i := 0) (oi := { dst := some 20, op := Op.move (Operand.tmp 7), type := 33, pos := "text.go:28", after := #[], guard := none }) (v := iv 20) rfl (by kernel_rfl) (by kernel_rfl) (by kernel_rfl) (fun _ _ _ h => h.elim) (Or.inl ⟨by rfl, ?y1⟩) hS0.out ?_
  case y1 =>
    intro V hV
    go_simp
  simp only [Act.put, List.setIfInBounds_toArray, List.set_cons_zero, List.set_cons_succ]
  refine wpAnyH_take (i := 1) (oi := { dst := some 21, op := Op.binOp BinOp.eql 33 (Operand.tmp 20) (Operand.const (Value.int IntKind.i64 0)) 33, type := 4, pos := "text.go:28", after := #[{ on := 0, ground := Ground.data }], guard := none }) (v := .bool false) rfl (by kernel_rfl) (by kernel_rfl) (by kernel_rfl) (fun _ _ _ h => h.elim) (Or.inl ⟨by rfl, ?y2⟩) hS0.out ?_
  case y2 =>
    intro V hV
    go_simp
  simp only [Act.put, List.setIfInBounds_toArray, List.set_cons_zero, List.set_cons_succ]
  refine wpAnyH_take (i := 2) (oi := { dst := some 22, op := Op.move (Operand.tmp 21), type := 4, pos := "text.go:28", after := #[{ on := 1, ground := Ground.data }], guard := none }) (v := .bool false) rfl (by kernel_rfl) (by kernel_rfl) (by kernel_rfl) (fun _ _ _ h => h.elim) (Or.inl ⟨by rfl, ?y3⟩) hS0.out ?_
  case y3 =>
    intro V hV
    go_simp
  simp only [Act.put, List.setIfInBounds_toArray, List.set_cons_zero, List.set_cons_succ]
  refine wpAnyH_take (i := 3) (oi := { dst := some 23, op := Op.move (Operand.tmp 0), type := 26, pos := "text.go:28", after := #[{ on := 2, ground := Ground.guard }], guard := some (2, true) }) (v := undef) rfl (by kernel_rfl) (by kernel_rfl) (by kernel_rfl) (fun _ _ _ h => h.elim) (Or.inr ⟨by rfl, rfl⟩) hS0.out ?_
  simp only [Act.put, List.setIfInBounds_toArray, List.set_cons_zero, List.set_cons_succ]
  refine wpAnyH_take (i := 4) (oi := { dst := some 24, op := Op.nilCheck (Operand.tmp 23), type := 0, pos := "text.go:28", after := #[{ on := 3, ground := Ground.data }, { on := 2, ground := Ground.guard }], guard := some (2, true) }) (v := undef) rfl (by kernel_rfl) (by kernel_rfl) (by kernel_rfl) (fun _ _ _ h => h.elim) (Or.inr ⟨by rfl, rfl⟩) hS0.out ?_
  simp only [Act.put, List.setIfInBounds_toArray, List.set_cons_zero, List.set_cons_succ]
  refine wpAnyH_take (i := 5) (oi := { dst := some 25, op := Op.fieldAddr 57 (Operand.tmp 24) 0, type := 0, pos := "text.go:28", after := #[{ on := 4, ground := Ground.data }, { on := 2, ground := Ground.guard }], guard := some (2, true) }) (v := undef) rfl (by kernel_rfl) (by kernel_rfl) (by kernel_rfl) (fun _ _ _ h => h.elim) (Or.inr ⟨by rfl, rfl⟩) hS0.out ?_
  simp only [Act.put, List.setIfInBounds_toArray, List.set_cons_zero, List.set_cons_succ]
  refine wpAnyH_take (i := 6) (oi := { dst := some 26, op := Op.load 22 (Operand.tmp 25), type := 22, pos := "text.go:28", after := #[{ on := 5, ground := Ground.data }, { on := 2, ground := Ground.guard }], guard := some (2, true) }) (v := undef) rfl (by kernel_rfl) (by kernel_rfl) (by kernel_rfl) (fun _ _ _ h => h.elim) (Or.inr ⟨by rfl, rfl⟩) hS0.out ?_
  simp only [Act.put, List.setIfInBounds_toArray, List.set_cons_zero, List.set_cons_succ]
  refine wpAnyH_take (i := 7) (oi := { dst := some 27, op := Op.move (Operand.tmp 1), type := 9, pos := "text.go:28", after := #[{ on := 2, ground := Ground.guard }], guard := some (2, true) }) (v := undef) rfl (by kernel_rfl) (by kernel_rfl) (by kernel_rfl) (fun _ _ _ h => h.elim) (Or.inr ⟨by rfl, rfl⟩) hS0.out ?_
  simp only [Act.put, List.setIfInBounds_toArray, List.set_cons_zero, List.set_cons_succ]
  refine wpAnyH_take (i := 8) (oi := { dst := some 28, op := Op.move (Operand.tmp 5), type := 3, pos := "text.go:28", after := #[{ on := 2, ground := Ground.guard }], guard := some (2, true) }) (v := undef) rfl (by kernel_rfl) (by kernel_rfl) (by kernel_rfl) (fun _ _ _ h => h.elim) (Or.inr ⟨by rfl, rfl⟩) hS0.out ?_
  simp only [Act.put, List.setIfInBounds_toArray, List.set_cons_zero, List.set_cons_succ]
  refine wpAnyH_take (i := 9) (oi := { dst := some 29, op := Op.slice 9 (Operand.tmp 27) none (some (Operand.tmp 28)) none, type := 9, pos := "text.go:28", after := #[{ on := 7, ground := Ground.data }, { on := 8, ground := Ground.data }, { on := 2, ground := Ground.guard }], guard := some (2, true) }) (v := undef) rfl (by kernel_rfl) (by kernel_rfl) (by kernel_rfl) (fun _ _ _ h => h.elim) (Or.inr ⟨by rfl, rfl⟩) hS0.out ?_
  simp only [Act.put, List.setIfInBounds_toArray, List.set_cons_zero, List.set_cons_succ]
  refine wpAnyH_take (i := 10) (oi := { dst := some 30, op := Op.convert 9 22 (Operand.tmp 29), type := 22, pos := "text.go:28", after := #[{ on := 9, ground := Ground.data }, { on := 2, ground := Ground.guard }], guard := some (2, true) }) (v := undef) rfl (by kernel_rfl) (by kernel_rfl) (by kernel_rfl) (fun _ _ _ h => h.elim) (Or.inr ⟨by rfl, rfl⟩) hS0.out ?_
  simp only [Act.put, List.setIfInBounds_toArray, List.set_cons_zero, List.set_cons_succ]
  refine wpAnyH_take (i := 11) (oi := { dst := some 31, op := Op.move (Operand.tmp 6), type := 22, pos := "text.go:28", after := #[{ on := 2, ground := Ground.guard }], guard := some (2, true) }) (v := undef) rfl (by kernel_rfl) (by kernel_rfl) (by kernel_rfl) (fun _ _ _ h => h.elim) (Or.inr ⟨by rfl, rfl⟩) hS0.out ?_
  simp only [Act.put, List.setIfInBounds_toArray, List.set_cons_zero, List.set_cons_succ]
  refine wpAnyH_take (i := 12) (oi := { dst := some 32, op := Op.call { callee := Callee.value (Operand.func 41), args := #[Operand.tmp 26, Operand.tmp 30, Operand.tmp 31], argTypes := #[22, 22, 22] }, type := 4, pos := "text.go:28", after := #[{ on := 6, ground := Ground.data }, { on := 10, ground := Ground.data }, { on := 11, ground := Ground.data }, { on := 2, ground := Ground.chain }, { on := 2, ground := Ground.guard }], guard := some (2, true) }) (v := undef) rfl (by kernel_rfl) (by kernel_rfl) (by kernel_rfl) (fun _ _ _ h => h.elim) (Or.inr ⟨by rfl, rfl⟩) hS0.out ?_
  simp only [Act.put, List.setIfInBounds_toArray, List.set_cons_zero, List.set_cons_succ]
  refine wpAnyH_take (i := 13) (oi := { dst := some 33, op := Op.pick (Operand.tmp 22) (Operand.tmp 32) (Operand.const (Value.bool false)), type := 4, pos := "text.go:28", after := #[{ on := 2, ground := Ground.data }, { on := 12, ground := Ground.data }], guard := none }) (v := .bool false) rfl (by kernel_rfl) (by kernel_rfl) (by kernel_rfl) (fun _ _ _ h => h.elim) (Or.inl ⟨by rfl, ?y4⟩) hS0.out ?_
  case y4 =>
    intro V hV
    go_simp
  simp only [Act.put, List.setIfInBounds_toArray, List.set_cons_zero, List.set_cons_succ]
  refine wpAnyH_take (i := 14) (oi := { dst := some 4, op := Op.assign (Operand.tmp 33), type := 4, pos := "text.go:28", after := #[{ on := 13, ground := Ground.data }, { on := 12, ground := Ground.chain }, { on := 0, ground := Ground.phase }, { on := 1, ground := Ground.phase }, { on := 2, ground := Ground.phase }, { on := 3, ground := Ground.phase }, { on := 4, ground := Ground.phase }, { on := 5, ground := Ground.phase }, { on := 6, ground := Ground.phase }, { on := 7, ground := Ground.phase }, { on := 8, ground := Ground.phase }, { on := 9, ground := Ground.phase }, { on := 10, ground := Ground.phase }, { on := 11, ground := Ground.phase }, { on := 12, ground := Ground.phase }, { on := 13, ground := Ground.phase }], guard := none }) (v := .bool false) rfl (by kernel_rfl) (by kernel_rfl) (by kernel_rfl) (fun _ _ _ h => h.elim) (Or.inl ⟨by rfl, ?y5⟩) hS0.out ?_
  case y5 =>
    intro V hV
    go_simp
  simp only [Act.put, List.setIfInBounds_toArray, List.set_cons_zero, List.set_cons_succ]
  refine wpAnyH_done (by kernel_rfl) ?_ _
  exact hQ V0 hS0.out
#print axioms wr5n
theorem ext_data (s : BA) (i j : Nat) : (s.extract i j).data.toList = (s.data.toList.take j).drop i := by
  simp only [ByteArray.data_extract, Array.toList_extract, List.extract_eq_take_drop]
  rw [List.drop_take]
set_option maxRecDepth 100000 in
set_option maxHeartbeats 1000000 in
theorem wrote_is {w : World} {b : Nat} {a : Option Addr} {n cp : Nat} {mv : Value} {S : List UInt8} (hB : Blk w b 57 [.slice a n cp, mv]) (hS : In w a n cp S) (hn : n ≤ 20000) (hV : VT w) (X : BA) (hX : X.size ≤ 20000) :
    Calls Tryd.prog 29 #[.pointer (some ⟨b, 0, none⟩), .string X] w fun e w' => ∃ R : Bool, e = .returned (.bool R) ∧ Hid ((∃ bd, X.data.toList = sealT S bd) → R = true) ∧ Below w.heap.size w w' := by
  have HB : Hid (Blk w b 57 [.slice a n cp, mv] ∧ In w a n cp S ∧ n ≤ 20000 ∧ VT w ∧ X.size ≤ 20000) := ⟨hB, hS, hn, hV, hX⟩
  have C39 : Hid (∀ V, Calls Tryd.prog 39 #[.string X, .string ⟨#[46]⟩] V fun e V2 => e = .returned (iv (Lib.lastIndexByte X 46)) ∧ V2 = V) := fun V => lst_is X ⟨#[46]⟩ rfl (by omega) V
  have qX : (X.size : Int) ≤ 20000 := by omega
  clear hB hS hn hV hX
  rcases Lib.lastIndexByte_spec X 46 with ⟨he, hno⟩ | ⟨i, hi, he, h1, h2⟩
  · rw [he] at C39
    have HW : Hid (¬ ∃ bd, X.data.toList = sealT S bd) := fun ⟨bd, hbd⟩ => by have := seal_at hbd; omega
    clear he hno
    go_enter Tryd.func29, Tryd.ntmps29
    go_wp2_with fail
    refine (C39.out w).mono ?_
    rintro e W ⟨rfl, rfl⟩
    go_wp2
    go_ret
    exact ⟨false, rfl, fun h => absurd h HW.out, Below.refl _ _⟩
  · rw [he] at C39
    obtain ⟨Y, hY⟩ : ∃ Y : BA, X.extract 0 i = Y := ⟨_, rfl⟩
    obtain ⟨Z, hZ⟩ : ∃ Z : BA, X.extract (i + 1) X.size = Z := ⟨_, rfl⟩
    have hYL : Y.data.toList = X.data.toList.take i := by rw [← hY, ext_data, List.drop_zero]
    have hZL : Z.data.toList = X.data.toList.drop (i + 1) := by
      rw [← hZ, ext_data, List.take_of_length_le (show X.data.toList.length ≤ X.size from Nat.le_refl _)]
    have zY : Y.size ≤ 20000 := by rw [← hY, ByteArray.size_extract]; have := HB.out.2.2.2.2; omega
    have zZ : Z.size ≤ 20000 := by rw [← hZ, ByteArray.size_extract]; have := HB.out.2.2.2.2; omega
    have hsl : ∀ W, (Instr.slice 9 (.string X) none (some (iv (i : Int))) none).run Tryd.prog W = .ok (.string Y) W := fun W => by
      rw [← hY]
      go_simp
      omega
    have hsz : ∀ W, (Instr.slice 9 (.string X) (some (iv ((i : Int) + 1))) none none).run Tryd.prog W = .ok (.string Z) W := fun W => by
      rw [← hZ]
      go_simp
      omega
    have hseal : ∀ bd, X.data.toList = sealT S bd → Y.data.toList = bd ∧ unhexL Z.data.toList = some (tagOf S bd) := by
      intro bd hbd
      have hi2 : i = bd.length := by have := seal_at hbd; omega
      rw [hYL, hZL, hbd, hi2]
      unfold sealT
      rw [List.take_left, ← List.drop_drop, List.drop_left]
      exact ⟨rfl, unhex_hex _⟩
    have q1 : (i : Int) < (X.size : Int) := by omega
    have HSL : Hid (X.extract 0 i = Y ∧ i ≤ X.size) := ⟨hY, by omega⟩
    have HZ : Hid (Z.size ≤ 20000 ∧ Y.size ≤ 20000) := ⟨zZ, zY⟩
    have HSE : Hid (∀ bd, X.data.toList = sealT S bd → Y.data.toList = bd ∧ unhexL Z.data.toList = some (tagOf S bd)) := hseal
    clear he h1 h2 hi hY hZ hYL hZL zY zZ hsl hseal
    go_enter Tryd.func29, Tryd.ntmps29
    go_wp2_with fail
    refine (C39.out w).mono ?_
    rintro e W ⟨rfl, rfl⟩
    go_wp2_with fail
    refine (unhex_is Z _ rfl W (by have := HZ.out.1; omega)).mono ?_
    rintro e W2 ⟨⟨v, rfl, ho⟩, hb2⟩
    have H2 : Hid (Below W.heap.size W W2) := hb2
    have HO : Hid (Own 5 W.heap.size W2 v ((unhexL Z.data.toList).getD [])) := ho
    clear hb2 ho hsz
    cases hu : unhexL Z.data.toList with
    | none =>
      have HW : Hid (¬ ∃ bd, X.data.toList = sealT S bd) := fun ⟨bd, hbd⟩ => by have := (HSE.out bd hbd).2; rw [hu] at this; cases this
      rw [show (if (none : Option (List UInt8)).isSome then (0 : Int) else 20) = 20 from rfl]
      clear hu
      go_wp2_with fail
      refine wr5n ?_
      intro V1 hV1
      have H3 : Hid (Below W.heap.size W V1) := below_tr H2.out hV1
      clear hV1
      go_wp2
      go_ret
      exact ⟨false, rfl, fun h => absurd h HW.out, H3.out⟩
    | some od =>
      rw [show (if (some od : Option (List UInt8)).isSome then (0 : Int) else 20) = 0 from rfl]
      have HO2 : Hid (Own 5 W.heap.size W2 v od) := by have := HO.out; rw [hu] at this; exact this
      have hol : od.length ≤ 20000 := by
        have h1 := hex_unhex _ _ hu
        have h2 := hexOf_length od
        rw [h1] at h2
        have h3 : Z.data.toList.length = Z.size := rfl
        have := HZ.out.1
        omega
      obtain ⟨ta, tc, rfl, htin, -⟩ := own_in HO2.out (by omega)
      obtain ⟨R, hR⟩ : ∃ R : Bool, decide (tagOf S Y.data.toList = od) = R := ⟨_, rfl⟩
      have HW : Hid ((∃ bd, X.data.toList = sealT S bd) → R = true) := by
        rintro ⟨bd, hbd⟩
        obtain ⟨e1, e2⟩ := HSE.out bd hbd
        rw [hu] at e2
        rw [← hR, e1, Option.some.inj e2]
        simp
      have c0 : W2.cell? ⟨b, 0, none⟩ = some (.slice a n cp) := (HB.out.1.below H2.out HB.out.1.lt).cell rfl
      have HTI : Hid (In W2 ta od.length tc od) := htin
      have HRR : Hid (decide (tagOf S Y.data.toList = od) = R) := hR
      clear hu htin hR hol HO HO2
      go_wp2_with fail
      refine wr5 (R := R) (Nat.lt_of_lt_of_le HB.out.1.lt H2.out.size) c0 HZ.out.2 HSL.out ?_ ?_
      · intro V q cq hV hin
        have hbV := below_tr H2.out hV
        exact (check_is S Y.data.toList od _ R rfl HRR.out a (some ⟨q, 0, none⟩) ta n Y.size od.length cp cq tc V (HB.out.2.2.2.1.1.below hbV) (HB.out.2.2.2.1.2.1.below hbV) (HB.out.2.1.below hbV) hin (HTI.out.below hV) HB.out.2.2.1 HZ.out.2).mono (fun e V2 h => ⟨h.1, h.2.out⟩)
      · intro V1 q1 cq hV1
        have H3 : Hid (Below W.heap.size W V1) := below_tr H2.out hV1
        clear hV1 c0
        go_wp2
        go_ret
        exact ⟨R, rfl, HW.out, H3.out⟩
#print axioms wrote_is
end Go.Proofs.YtjeahlfmapacfaaDoor.Oct
