/-
  Layer 20 (review): ReviewPasses: its drawn regions.
-/
import Derived.Test.YtaecigpjcbjcbaaPsB
namespace Go.Proofs.Ytaecigpjcbjcbaa.Oct
open Go.RowKit
set_option linter.unusedSimpArgs false
set_option linter.unusedVariables false

theorem Blk.range0 {w : World} {b : Nat} {t : TypeId} {L : List Value} (h : Blk w b t L) : w.rangeAt b 0 L := fun j v hj => by rw [Nat.zero_add]; exact h.cell hj
theorem passes_b {b0 : Bool} (p : Pp) (ap : Int) (veto : Bool) (yes no : List BA) (w : World) (hl : p.patch.length = 32) (hy : Txt w p.y yes) (hn : Txt w p.n no) (h : passB yes no p.author p.opn ⟨ap, veto⟩ = b0) :
    Calls Try.prog 20 #[.agg p.cells.toArray, .agg #[iv ap, .bool veto]] w fun e w' => e = .returned (.bool b0) ∧ Below w.heap.size w w' := by
  subst h; exact passes_is p ⟨ap, veto⟩ yes no w hl hy hn
theorem refPasses_b {b0 : Bool} (p : Pp) (ap : Int) (veto : Bool) (yes no : List BA) (w : World) (hl : p.patch.length = 32) (hy : Txt w p.y yes) (hn : Txt w p.n no) (hy3 : p.y.n ≤ 1000) (h : passB yes no p.author p.opn ⟨ap, veto⟩ = b0) :
    Calls Try.prog 21 #[.agg p.cells.toArray, .agg #[iv ap, .bool veto]] w fun e w' => e = .returned (.bool b0) ∧ Below w.heap.size w w' := by
  subst h; exact refPasses_is p ⟨ap, veto⟩ yes no w hl hy hn hy3
set_option maxRecDepth 100000 in
set_option maxHeartbeats 4000000 in
theorem pas15 {Q : Exit → Act → World → Prop} {x0 x1 x4 x5 x6 x7 x8 x9 x11 x12 x13 x14 x15 x16 x17 x18 x19 x20 x21 x22 x23 x24 x25 x26 x27 x28 x29 x30 x31 x32 x33 x34 x35 x36 x37 x38 x39 x40 x41 x42 x43 x44 x45 x46 x47 x48 x49 x50 x51 x52 x53 x54 x55 x56 x57 x58 x59 x60 x61 x62 x63 x64 x65 x66 x67 x68 x69 x70 : Value} {ds : List Deferred} {A : World} {g q : Nat} {p : Pp} {ap : Int} {veto b0 : Bool} {yes no : List BA} {s10 : Sl}
    (HG : Hid (Blk A g 43 p.cells ∧ Blk A q 52 [iv ap, .bool veto] ∧ p.patch.length = 32 ∧ p.y.n ≤ 1000)) (HT : Hid (Txt A p.y yes ∧ Txt A p.n no ∧ Strs A s10.a s10.n yes ∧ yes.length ≤ 140737488355328)) (hb : Hid (passB yes no p.author p.opn ⟨ap, veto⟩ = b0))
    (hQ : ∀ V1, Below A.heap.size A V1 → Q .normal { tmps := #[x0, x1, .pointer (some ⟨g, 0, none⟩), .pointer (some ⟨q, 0, none⟩), .bool true, x5, x6, x7, x8, x9, .slice s10.a s10.n s10.c, x11, x12, x13, x14, x15, x16, x17, x18, x19, x20, x21, x22, x23, x24, x25, x26, x27, x28, x29, x30, x31, x32, x33, x34, x35, x36, x37, x38, x39, x40, x41, x42, x43, x44, x45, x46, x47, x48, x49, x50, x51, x52, x53, x54, .agg p.cells.toArray, .agg #[iv ap, .bool veto], .bool b0, .agg p.cells.toArray, .agg #[iv ap, .bool veto], .bool b0, .bool true, .bool true, .pointer (some ⟨g, 36, none⟩), .slice p.y.a p.y.n p.y.c, .slice s10.a s10.n s10.c, .bool true, .bool true, .bool true, .bool true, .bool true], defers := ds } V1) :
    (Code.region 15 #[{ dst := some 55, op := Op.load 43 (Operand.tmp 2), type := 43, pos := "law.go:125", after := #[], guard := none }, { dst := some 56, op := Op.load 52 (Operand.tmp 3), type := 52, pos := "law.go:125", after := #[], guard := none }, { dst := some 57, op := Op.call { callee := Callee.value (Operand.func 20), args := #[Operand.tmp 55, Operand.tmp 56], argTypes := #[43, 52] }, type := 4, pos := "law.go:125", after := #[{ on := 0, ground := Ground.data }, { on := 1, ground := Ground.data }], guard := none }, { dst := some 58, op := Op.load 43 (Operand.tmp 2), type := 43, pos := "law.go:125", after := #[], guard := none }, { dst := some 59, op := Op.load 52 (Operand.tmp 3), type := 52, pos := "law.go:125", after := #[], guard := none }, { dst := some 60, op := Op.call { callee := Callee.value (Operand.func 21), args := #[Operand.tmp 58, Operand.tmp 59], argTypes := #[43, 52] }, type := 4, pos := "law.go:125", after := #[{ on := 3, ground := Ground.data }, { on := 4, ground := Ground.data }, { on := 2, ground := Ground.chain }], guard := none }, { dst := some 61, op := Op.binOp BinOp.eql 4 (Operand.tmp 57) (Operand.tmp 60) 4, type := 4, pos := "law.go:125", after := #[{ on := 2, ground := Ground.data }, { on := 5, ground := Ground.data }], guard := none }, { dst := some 62, op := Op.move (Operand.tmp 61), type := 4, pos := "law.go:125", after := #[{ on := 6, ground := Ground.data }, { on := 5, ground := Ground.chain }], guard := none }, { dst := some 63, op := Op.fieldAddr 43 (Operand.tmp 2) 5, type := 0, pos := "law.go:125", after := #[{ on := 7, ground := Ground.guard }], guard := some (7, true) }, { dst := some 64, op := Op.load 40 (Operand.tmp 63), type := 40, pos := "law.go:125", after := #[{ on := 8, ground := Ground.data }, { on := 7, ground := Ground.guard }], guard := some (7, true) }, { dst := some 65, op := Op.move (Operand.tmp 10), type := 40, pos := "law.go:125", after := #[{ on := 7, ground := Ground.guard }], guard := some (7, true) }, { dst := some 66, op := Op.call { callee := Callee.value (Operand.func 22), args := #[Operand.tmp 64, Operand.tmp 65], argTypes := #[40, 40] }, type := 4, pos := "law.go:125", after := #[{ on := 9, ground := Ground.data }, { on := 10, ground := Ground.data }, { on := 7, ground := Ground.chain }, { on := 7, ground := Ground.guard }], guard := some (7, true) }, { dst := some 67, op := Op.pick (Operand.tmp 62) (Operand.tmp 66) (Operand.const (Value.bool false)), type := 4, pos := "law.go:125", after := #[{ on := 7, ground := Ground.data }, { on := 11, ground := Ground.data }], guard := none }, { dst := some 68, op := Op.move (Operand.tmp 67), type := 4, pos := "law.go:125", after := #[{ on := 12, ground := Ground.data }, { on := 11, ground := Ground.chain }], guard := none }, { dst := some 69, op := Op.call { callee := Callee.value (Operand.func 10), args := #[], argTypes := #[] }, type := 4, pos := "law.go:125", after := #[{ on := 13, ground := Ground.chain }, { on := 13, ground := Ground.guard }], guard := some (13, true) }, { dst := some 70, op := Op.pick (Operand.tmp 68) (Operand.tmp 69) (Operand.const (Value.bool false)), type := 4, pos := "law.go:125", after := #[{ on := 13, ground := Ground.data }, { on := 14, ground := Ground.data }], guard := none }, { dst := some 4, op := Op.assign (Operand.tmp 70), type := 4, pos := "law.go:125", after := #[{ on := 15, ground := Ground.data }, { on := 14, ground := Ground.chain }, { on := 0, ground := Ground.phase }, { on := 1, ground := Ground.phase }, { on := 2, ground := Ground.phase }, { on := 3, ground := Ground.phase }, { on := 4, ground := Ground.phase }, { on := 5, ground := Ground.phase }, { on := 6, ground := Ground.phase }, { on := 7, ground := Ground.phase }, { on := 8, ground := Ground.phase }, { on := 9, ground := Ground.phase }, { on := 10, ground := Ground.phase }, { on := 11, ground := Ground.phase }, { on := 12, ground := Ground.phase }, { on := 13, ground := Ground.phase }, { on := 14, ground := Ground.phase }, { on := 15, ground := Ground.phase }], guard := none }] true).wp Try.prog Q { tmps := #[x0, x1, .pointer (some ⟨g, 0, none⟩), .pointer (some ⟨q, 0, none⟩), x4, x5, x6, x7, x8, x9, .slice s10.a s10.n s10.c, x11, x12, x13, x14, x15, x16, x17, x18, x19, x20, x21, x22, x23, x24, x25, x26, x27, x28, x29, x30, x31, x32, x33, x34, x35, x36, x37, x38, x39, x40, x41, x42, x43, x44, x45, x46, x47, x48, x49, x50, x51, x52, x53, x54, x55, x56, x57, x58, x59, x60, x61, x62, x63, x64, x65, x66, x67, x68, x69, x70], defers := ds } A := by
  refine Code.wp_mono (Q := fun x a' w' => match x with | .normal => Q .normal a' w' | _ => False) (by intro x a' w' h; cases x <;> first | exact h | exact h.elim) ?_
  refine wp_region_held (S := fun V => Below A.heap.size A V) (by kernel_rfl) ?_
  have hS0 : Hid (Below A.heap.size A A.drew) := below_drew0 A
  change wpAnyH Try.prog .any _ _ (fun V => Below A.heap.size A V) 17 (Array.replicate 17 false) _ A.drew
  obtain ⟨V0, hV0⟩ : ∃ V0, A.drew = V0 := ⟨_, rfl⟩
  rw [hV0]
  rw [hV0] at hS0
  clear hV0
  refine wpAnyH_take (i := 0) (oi := { dst := some 55, op := Op.load 43 (Operand.tmp 2), type := 43, pos := "law.go:125", after := #[], guard := none }) (v := .agg p.cells.toArray) rfl (by kernel_rfl) (by kernel_rfl) (by kernel_rfl) (fun _ _ _ h => h.elim) (yieldsIf_load_mid (by rfl) _ _ rfl _ _ rfl (p.cells) _ (fun V hV => rangeAt_same (HG.out.1.range0) ((show Below A.heap.size A V from hV).block _ (HG.out.1.lt))) Try.underlying43 rfl (by rw [Pp.length HG.out.2.2.1]; exact size43)) hS0.out ?_
  simp only [Act.put, List.setIfInBounds_toArray, List.set_cons_zero, List.set_cons_succ]
  refine wpAnyH_take (i := 1) (oi := { dst := some 56, op := Op.load 52 (Operand.tmp 3), type := 52, pos := "law.go:125", after := #[], guard := none }) (v := .agg #[iv ap, .bool veto]) rfl (by kernel_rfl) (by kernel_rfl) (by kernel_rfl) (fun _ _ _ h => h.elim) (yieldsIf_load_mid (by rfl) _ _ rfl _ _ rfl ([iv ap, .bool veto]) _ (fun V hV => rangeAt_same (HG.out.2.1.range0) ((show Below A.heap.size A V from hV).block _ (HG.out.2.1.lt))) Try.underlying52 rfl (by kernel_rfl)) hS0.out ?_
  simp only [Act.put, List.setIfInBounds_toArray, List.set_cons_zero, List.set_cons_succ]
  refine wpAnyH_take (i := 3) (oi := { dst := some 58, op := Op.load 43 (Operand.tmp 2), type := 43, pos := "law.go:125", after := #[], guard := none }) (v := .agg p.cells.toArray) rfl (by kernel_rfl) (by kernel_rfl) (by kernel_rfl) (fun _ _ _ h => h.elim) (yieldsIf_load_mid (by rfl) _ _ rfl _ _ rfl (p.cells) _ (fun V hV => rangeAt_same (HG.out.1.range0) ((show Below A.heap.size A V from hV).block _ (HG.out.1.lt))) Try.underlying43 rfl (by rw [Pp.length HG.out.2.2.1]; exact size43)) hS0.out ?_
  simp only [Act.put, List.setIfInBounds_toArray, List.set_cons_zero, List.set_cons_succ]
  refine wpAnyH_take (i := 4) (oi := { dst := some 59, op := Op.load 52 (Operand.tmp 3), type := 52, pos := "law.go:125", after := #[], guard := none }) (v := .agg #[iv ap, .bool veto]) rfl (by kernel_rfl) (by kernel_rfl) (by kernel_rfl) (fun _ _ _ h => h.elim) (yieldsIf_load_mid (by rfl) _ _ rfl _ _ rfl ([iv ap, .bool veto]) _ (fun V hV => rangeAt_same (HG.out.2.1.range0) ((show Below A.heap.size A V from hV).block _ (HG.out.2.1.lt))) Try.underlying52 rfl (by kernel_rfl)) hS0.out ?_
  simp only [Act.put, List.setIfInBounds_toArray, List.set_cons_zero, List.set_cons_succ]
  refine wpAnyH_ready (rs := [2]) (by kernel_rfl) (by simp) (AllReadyH.cons (i := 2) (o := { dst := some 57, op := Op.call { callee := Callee.value (Operand.func 20), args := #[Operand.tmp 55, Operand.tmp 56], argTypes := #[43, 52] }, type := 4, pos := "law.go:125", after := #[{ on := 0, ground := Ground.data }, { on := 1, ground := Ground.data }], guard := none }) rfl ?_ AllReadyH.nil)
  · intro K1 hK1
    rw [if_pos (by rfl)]
    have HC1 := passes_b p ap veto yes no V0 HG.out.2.2.1 (HT.out.1.below hS0.out) (HT.out.2.1.below hS0.out) hb.out
    go_wp2_with fail
    refine HC1.mono ?_
    rintro e V1 ⟨rfl, hb1⟩
    dsimp only
    clear HC1
    have hS1 : Hid (Below A.heap.size A V1) := hS0.out.trans (hb1.mono hS0.out.size)
    clear hb1
    refine hK1.out _ _ hS1.out ?_
    clear hK1
    intro _
    try simp only [Act.put, List.setIfInBounds_toArray, List.set_cons_zero, List.set_cons_succ]
    refine wpAnyH_ready (rs := [5]) (by kernel_rfl) (by simp) (AllReadyH.cons (i := 5) (o := { dst := some 60, op := Op.call { callee := Callee.value (Operand.func 21), args := #[Operand.tmp 58, Operand.tmp 59], argTypes := #[43, 52] }, type := 4, pos := "law.go:125", after := #[{ on := 3, ground := Ground.data }, { on := 4, ground := Ground.data }, { on := 2, ground := Ground.chain }], guard := none }) rfl ?_ AllReadyH.nil)
    · intro K1 hK1
      rw [if_pos (by rfl)]
      have HC2 := refPasses_b p ap veto yes no V1 HG.out.2.2.1 (HT.out.1.below hS1.out) (HT.out.2.1.below hS1.out) HG.out.2.2.2 hb.out
      go_wp2_with fail
      refine HC2.mono ?_
      rintro e V2 ⟨rfl, hb2⟩
      dsimp only
      clear HC2
      have hS2 : Hid (Below A.heap.size A V2) := hS1.out.trans (hb2.mono hS1.out.size)
      clear hb2
      refine hK1.out _ _ hS2.out ?_
      clear hK1
      intro _
      try simp only [Act.put, List.setIfInBounds_toArray, List.set_cons_zero, List.set_cons_succ]
      refine wpAnyH_take (i := 6) (oi := { dst := some 61, op := Op.binOp BinOp.eql 4 (Operand.tmp 57) (Operand.tmp 60) 4, type := 4, pos := "law.go:125", after := #[{ on := 2, ground := Ground.data }, { on := 5, ground := Ground.data }], guard := none }) (v := .bool true) rfl (by kernel_rfl) (by kernel_rfl) (by kernel_rfl) (fun _ _ _ h => h.elim) (Or.inl ⟨by rfl, ?y1⟩) hS2.out ?_
      case y1 =>
        intro V hV
        cases b0 <;> go_simp
      simp only [Act.put, List.setIfInBounds_toArray, List.set_cons_zero, List.set_cons_succ]
      refine wpAnyH_take (i := 7) (oi := { dst := some 62, op := Op.move (Operand.tmp 61), type := 4, pos := "law.go:125", after := #[{ on := 6, ground := Ground.data }, { on := 5, ground := Ground.chain }], guard := none }) (v := .bool true) rfl (by kernel_rfl) (by kernel_rfl) (by kernel_rfl) (fun _ _ _ h => h.elim) (Or.inl ⟨by rfl, ?y2⟩) hS2.out ?_
      case y2 =>
        intro V hV
        go_simp
      simp only [Act.put, List.setIfInBounds_toArray, List.set_cons_zero, List.set_cons_succ]
      refine wpAnyH_take (i := 8) (oi := { dst := some 63, op := Op.fieldAddr 43 (Operand.tmp 2) 5, type := 0, pos := "law.go:125", after := #[{ on := 7, ground := Ground.guard }], guard := some (7, true) }) (v := .pointer (some ⟨g, 36, none⟩)) rfl (by kernel_rfl) (by kernel_rfl) (by kernel_rfl) (fun _ _ _ h => h.elim) (Or.inl ⟨by rfl, ?y3⟩) hS2.out ?_
      case y3 =>
        intro V hV
        go_simp
      simp only [Act.put, List.setIfInBounds_toArray, List.set_cons_zero, List.set_cons_succ]
      refine wpAnyH_take (i := 9) (oi := { dst := some 64, op := Op.load 40 (Operand.tmp 63), type := 40, pos := "law.go:125", after := #[{ on := 8, ground := Ground.data }, { on := 7, ground := Ground.guard }], guard := some (7, true) }) (v := .slice p.y.a p.y.n p.y.c) rfl (by kernel_rfl) (by kernel_rfl) (by kernel_rfl) (fun _ _ _ h => h.elim) (Or.inl ⟨by rfl, ?y4⟩) hS2.out ?_
      case y4 =>
        intro V hV
        have hc : V.cell? ⟨g, 36, none⟩ = some (.slice p.y.a p.y.n p.y.c) := ((show Below A.heap.size A V from hV).cell (p := ⟨g, 36, none⟩) HG.out.1.lt).trans (HG.out.1.cell (Pp.tail HG.out.2.2.1 1))
        go_simp
      simp only [Act.put, List.setIfInBounds_toArray, List.set_cons_zero, List.set_cons_succ]
      refine wpAnyH_take (i := 10) (oi := { dst := some 65, op := Op.move (Operand.tmp 10), type := 40, pos := "law.go:125", after := #[{ on := 7, ground := Ground.guard }], guard := some (7, true) }) (v := .slice s10.a s10.n s10.c) rfl (by kernel_rfl) (by kernel_rfl) (by kernel_rfl) (fun _ _ _ h => h.elim) (Or.inl ⟨by rfl, ?y5⟩) hS2.out ?_
      case y5 =>
        intro V hV
        go_simp
      simp only [Act.put, List.setIfInBounds_toArray, List.set_cons_zero, List.set_cons_succ]
      refine wpAnyH_ready (rs := [11]) (by kernel_rfl) (by simp) (AllReadyH.cons (i := 11) (o := { dst := some 66, op := Op.call { callee := Callee.value (Operand.func 22), args := #[Operand.tmp 64, Operand.tmp 65], argTypes := #[40, 40] }, type := 4, pos := "law.go:125", after := #[{ on := 9, ground := Ground.data }, { on := 10, ground := Ground.data }, { on := 7, ground := Ground.chain }, { on := 7, ground := Ground.guard }], guard := some (7, true) }) rfl ?_ AllReadyH.nil)
      · intro K1 hK1
        rw [if_pos (by rfl)]
        have HC3 := texts_same yes p.y s10 V2 (HT.out.1.below hS2.out).1 (HT.out.2.2.1.below hS2.out) HT.out.2.2.2
        go_wp2_with fail
        refine HC3.mono ?_
        rintro e V3 ⟨rfl, hb3⟩
        dsimp only
        clear HC3
        have hS3 : Hid (Below A.heap.size A V3) := hS2.out.trans (hb3.mono hS2.out.size)
        clear hb3
        refine hK1.out _ _ hS3.out ?_
        clear hK1
        intro _
        try simp only [Act.put, List.setIfInBounds_toArray, List.set_cons_zero, List.set_cons_succ]
        refine wpAnyH_take (i := 12) (oi := { dst := some 67, op := Op.pick (Operand.tmp 62) (Operand.tmp 66) (Operand.const (Value.bool false)), type := 4, pos := "law.go:125", after := #[{ on := 7, ground := Ground.data }, { on := 11, ground := Ground.data }], guard := none }) (v := .bool true) rfl (by kernel_rfl) (by kernel_rfl) (by kernel_rfl) (fun _ _ _ h => h.elim) (Or.inl ⟨by rfl, ?y6⟩) hS3.out ?_
        case y6 =>
          intro V hV
          go_simp
        simp only [Act.put, List.setIfInBounds_toArray, List.set_cons_zero, List.set_cons_succ]
        refine wpAnyH_take (i := 13) (oi := { dst := some 68, op := Op.move (Operand.tmp 67), type := 4, pos := "law.go:125", after := #[{ on := 12, ground := Ground.data }, { on := 11, ground := Ground.chain }], guard := none }) (v := .bool true) rfl (by kernel_rfl) (by kernel_rfl) (by kernel_rfl) (fun _ _ _ h => h.elim) (Or.inl ⟨by rfl, ?y7⟩) hS3.out ?_
        case y7 =>
          intro V hV
          go_simp
        simp only [Act.put, List.setIfInBounds_toArray, List.set_cons_zero, List.set_cons_succ]
        refine wpAnyH_ready (rs := [14]) (by kernel_rfl) (by simp) (AllReadyH.cons (i := 14) (o := { dst := some 69, op := Op.call { callee := Callee.value (Operand.func 10), args := #[], argTypes := #[] }, type := 4, pos := "law.go:125", after := #[{ on := 13, ground := Ground.chain }, { on := 13, ground := Ground.guard }], guard := some (13, true) }) rfl ?_ AllReadyH.nil)
        · intro K1 hK1
          rw [if_pos (by rfl)]
          have HC4 := lives_is V3
          go_wp2_with fail
          refine HC4.mono ?_
          rintro e V4 ⟨rfl, hb4⟩
          dsimp only
          clear HC4
          have hS4 : Hid (Below A.heap.size A V4) := hS3.out.trans (hb4.mono hS3.out.size)
          clear hb4
          refine hK1.out _ _ hS4.out ?_
          clear hK1
          intro _
          try simp only [Act.put, List.setIfInBounds_toArray, List.set_cons_zero, List.set_cons_succ]
          refine wpAnyH_take (i := 15) (oi := { dst := some 70, op := Op.pick (Operand.tmp 68) (Operand.tmp 69) (Operand.const (Value.bool false)), type := 4, pos := "law.go:125", after := #[{ on := 13, ground := Ground.data }, { on := 14, ground := Ground.data }], guard := none }) (v := .bool true) rfl (by kernel_rfl) (by kernel_rfl) (by kernel_rfl) (fun _ _ _ h => h.elim) (Or.inl ⟨by rfl, ?y8⟩) hS4.out ?_
          case y8 =>
            intro V hV
            go_simp
          simp only [Act.put, List.setIfInBounds_toArray, List.set_cons_zero, List.set_cons_succ]
          refine wpAnyH_take (i := 16) (oi := { dst := some 4, op := Op.assign (Operand.tmp 70), type := 4, pos := "law.go:125", after := #[{ on := 15, ground := Ground.data }, { on := 14, ground := Ground.chain }, { on := 0, ground := Ground.phase }, { on := 1, ground := Ground.phase }, { on := 2, ground := Ground.phase }, { on := 3, ground := Ground.phase }, { on := 4, ground := Ground.phase }, { on := 5, ground := Ground.phase }, { on := 6, ground := Ground.phase }, { on := 7, ground := Ground.phase }, { on := 8, ground := Ground.phase }, { on := 9, ground := Ground.phase }, { on := 10, ground := Ground.phase }, { on := 11, ground := Ground.phase }, { on := 12, ground := Ground.phase }, { on := 13, ground := Ground.phase }, { on := 14, ground := Ground.phase }, { on := 15, ground := Ground.phase }], guard := none }) (v := .bool true) rfl (by kernel_rfl) (by kernel_rfl) (by kernel_rfl) (fun _ _ _ h => h.elim) (Or.inl ⟨by rfl, ?y9⟩) hS4.out ?_
          case y9 =>
            intro V hV
            go_simp
          simp only [Act.put, List.setIfInBounds_toArray, List.set_cons_zero, List.set_cons_succ]
          refine wpAnyH_done (by kernel_rfl) ?_ _
          exact hQ V4 hS4.out
#print axioms pas15
end Go.Proofs.Ytaecigpjcbjcbaa.Oct
