/-
  Layer 17 (acl): AclDecides: its drawn regions.
-/
import Derived.Test.YtngkajeghmogmaaRefD
import Derived.Test.YtngkajeghmogmaaViewT
import Derived.Test.YtngkajeghmogmaaRowS
namespace Go.Proofs.Ytngkajeghmogmaa.Oct
open Go.RowKit Go.Shelf
set_option linter.unusedSimpArgs false
set_option linter.unusedVariables false

theorem right_b {b : Bool} (r : Ru) (hr : r.short) (w : World) (h : ruleOk r = b) : Calls Try.prog 11 #[ruv r] w fun e w' => e = .returned (.bool b) ∧ Below w.heap.size w w' := by
  subst h; exact right_is r hr w
theorem refRight_b {b : Bool} (r : Ru) (hr : r.short) (w : World) (h : ruleOk r = b) : Calls Try.prog 12 #[ruv r] w fun e w' => e = .returned (.bool b) ∧ Below w.heap.size w w' := by
  subst h; exact refRight_is r hr w
theorem matches_b {b : Bool} (r : Ru) (k : Ak) (hr : r.short) (w : World) (hk : k.at w) (h : mat k r = b) : Calls Try.prog 13 #[ruv r, sv k.s, .string k.ch, .string k.path, iv k.right] w fun e w' => e = .returned (.bool b) ∧ Below w.heap.size w w' := by
  subst h; exact matches_is r hr k.s k.ch k.path k.right w hk.1 hk.2.1
theorem refMatches_k {b : Bool} (r : Ru) (k : Ak) (hr : r.short) (w : World) (hk : k.at w) (hw : k.wide) (h : mat k r = b) : Calls Try.prog 14 #[ruv r, sv k.s, .string k.ch, .string k.path, iv k.right] w fun e w' => e = .returned (.bool b) ∧ Below w.heap.size w w' :=
  refMatches_b r hr k.s k.ch k.path k.right w hk.1 hk.2.1 hk.2.2.2 hw.2 (by rw [mat_eq]; exact h)
theorem dec_b {b : Bool} (l : List Ru) (a : Option Addr) (n cp : Nat) (k : Ak) (w : World) (hl : RuS w a n l) (hn : n ≤ 2199023255551) (hk : k.at w) (h : dec l k = b) : Calls Try.prog 15 #[.slice a n cp, av k] w fun e w' => e = .returned (.bool b) ∧ Below w.heap.size w w' := by
  subst h; exact dec_is l a n cp k w hl hn hk
theorem refDec_b {b : Bool} (l : List Ru) (a : Option Addr) (n cp : Nat) (k : Ak) (w : World) (hl : RuS w a n l) (hn : n ≤ 2199023255551) (hk : k.at w) (hw : k.wide) (h : dec l k = b) : Calls Try.prog 16 #[.slice a n cp, sv k.s, .string k.ch, .string k.path, iv k.right] w fun e w' => e = .returned (.bool b) ∧ Below w.heap.size w w' := by
  subst h; exact refDecide_is l a n cp k.s k.ch k.path k.right w hl hn hk.1 hk.2.1 hk.2.2.2 hw.2
set_option maxRecDepth 100000 in
set_option maxHeartbeats 4000000 in
theorem decs_reg8 {Q : Exit → Act → World → Prop} {x0 x1 x2 x4 x5 x6 x8 x9 x10 x11 x12 x13 x14 x15 x16 x17 x18 x19 x20 x21 x22 x23 x24 x25 x26 x27 x28 x29 x30 x31 x32 x33 x34 x35 x36 x37 x38 x39 x40 x41 x42 x43 x44 x45 x46 x47 x48 x49 x50 x51 x52 x53 x54 x55 x56 x57 x58 x59 x60 x61 x62 x63 x64 x65 x66 x67 x68 x69 x70 x71 x72 x73 x74 x75 x76 x77 x78 x79 x80 x81 : Value} {ds : List Deferred} {A : World} {g q : Nat} {r : Ru} {k : Ak} {b1 b2 : Bool}
    (HA : Hid (Blk A g 27 [.string k.s.user, .slice k.s.ta k.s.tn k.s.tc, iv k.s.role, .string k.ch, .string k.path, iv k.right])) (HK : Hid (k.at A ∧ k.wide)) (HR : Hid (Blk A q 31 [.string r.who, .string r.ch, .string r.pre, iv r.right, .bool r.deny])) (HRS : Hid r.short) (hb1 : Hid (ruleOk r = b1)) (hb2 : Hid (mat k r = b2))
    (hQ : ∀ V1, Below A.heap.size A V1 → Q .normal { tmps := #[x0, x1, x2, .pointer (some ⟨g, 0, none⟩), x4, x5, x6, .pointer (some ⟨q, 0, none⟩), x8, x9, x10, x11, x12, x13, x14, x15, x16, x17, x18, x19, x20, x21, x22, x23, x24, x25, x26, x27, x28, x29, .agg #[.string r.who, .string r.ch, .string r.pre, iv r.right, .bool r.deny], .bool b1, .agg #[.string r.who, .string r.ch, .string r.pre, iv r.right, .bool r.deny], .bool b1, .bool false, .bool false, .agg #[.string r.who, .string r.ch, .string r.pre, iv r.right, .bool r.deny], .pointer (some ⟨g, 0, none⟩), .agg #[.string k.s.user, .slice k.s.ta k.s.tn k.s.tc, iv k.s.role], .pointer (some ⟨g, 3, none⟩), .string k.ch, .pointer (some ⟨g, 4, none⟩), .string k.path, .pointer (some ⟨g, 5, none⟩), iv k.right, .bool b2, .agg #[.string r.who, .string r.ch, .string r.pre, iv r.right, .bool r.deny], .pointer (some ⟨g, 0, none⟩), .agg #[.string k.s.user, .slice k.s.ta k.s.tn k.s.tc, iv k.s.role], .pointer (some ⟨g, 3, none⟩), .string k.ch, .pointer (some ⟨g, 4, none⟩), .string k.path, .pointer (some ⟨g, 5, none⟩), iv k.right, .bool b2, .bool false, .bool false, x58, x59, x60, x61, x62, x63, x64, x65, x66, x67, x68, x69, x70, x71, x72, x73, x74, x75, x76, x77, x78, x79, x80, x81], defers := ds } V1) :
    (Code.region 8 #[{ dst := some 30, op := Op.load 31 (Operand.tmp 7), type := 31, pos := "law.go:52", after := #[], guard := none }, { dst := some 31, op := Op.call { callee := Callee.value (Operand.func 11), args := #[Operand.tmp 30], argTypes := #[31] }, type := 4, pos := "law.go:52", after := #[{ on := 0, ground := Ground.data }], guard := none }, { dst := some 32, op := Op.load 31 (Operand.tmp 7), type := 31, pos := "law.go:52", after := #[], guard := none }, { dst := some 33, op := Op.call { callee := Callee.value (Operand.func 12), args := #[Operand.tmp 32], argTypes := #[31] }, type := 4, pos := "law.go:52", after := #[{ on := 2, ground := Ground.data }, { on := 1, ground := Ground.chain }], guard := none }, { dst := some 34, op := Op.binOp BinOp.neq 4 (Operand.tmp 31) (Operand.tmp 33) 4, type := 4, pos := "law.go:52", after := #[{ on := 1, ground := Ground.data }, { on := 3, ground := Ground.data }], guard := none }, { dst := some 35, op := Op.move (Operand.tmp 34), type := 4, pos := "law.go:52", after := #[{ on := 4, ground := Ground.data }, { on := 3, ground := Ground.chain }], guard := none }, { dst := some 36, op := Op.load 31 (Operand.tmp 7), type := 31, pos := "law.go:52", after := #[{ on := 5, ground := Ground.guard }], guard := some (5, false) }, { dst := some 37, op := Op.fieldAddr 27 (Operand.tmp 3) 0, type := 0, pos := "law.go:52", after := #[{ on := 5, ground := Ground.guard }], guard := some (5, false) }, { dst := some 38, op := Op.load 25 (Operand.tmp 37), type := 25, pos := "law.go:52", after := #[{ on := 7, ground := Ground.data }, { on := 5, ground := Ground.guard }], guard := some (5, false) }, { dst := some 39, op := Op.fieldAddr 27 (Operand.tmp 3) 1, type := 0, pos := "law.go:52", after := #[{ on := 5, ground := Ground.guard }], guard := some (5, false) }, { dst := some 40, op := Op.load 9 (Operand.tmp 39), type := 9, pos := "law.go:52", after := #[{ on := 9, ground := Ground.data }, { on := 5, ground := Ground.guard }], guard := some (5, false) }, { dst := some 41, op := Op.fieldAddr 27 (Operand.tmp 3) 2, type := 0, pos := "law.go:52", after := #[{ on := 5, ground := Ground.guard }], guard := some (5, false) }, { dst := some 42, op := Op.load 9 (Operand.tmp 41), type := 9, pos := "law.go:52", after := #[{ on := 11, ground := Ground.data }, { on := 5, ground := Ground.guard }], guard := some (5, false) }, { dst := some 43, op := Op.fieldAddr 27 (Operand.tmp 3) 3, type := 0, pos := "law.go:52", after := #[{ on := 5, ground := Ground.guard }], guard := some (5, false) }, { dst := some 44, op := Op.load 3 (Operand.tmp 43), type := 3, pos := "law.go:52", after := #[{ on := 13, ground := Ground.data }, { on := 5, ground := Ground.guard }], guard := some (5, false) }, { dst := some 45, op := Op.call { callee := Callee.value (Operand.func 13), args := #[Operand.tmp 36, Operand.tmp 38, Operand.tmp 40, Operand.tmp 42, Operand.tmp 44], argTypes := #[31, 25, 9, 9, 3] }, type := 4, pos := "law.go:52", after := #[{ on := 6, ground := Ground.data }, { on := 8, ground := Ground.data }, { on := 10, ground := Ground.data }, { on := 12, ground := Ground.data }, { on := 14, ground := Ground.data }, { on := 5, ground := Ground.chain }, { on := 5, ground := Ground.guard }], guard := some (5, false) }, { dst := some 46, op := Op.load 31 (Operand.tmp 7), type := 31, pos := "law.go:52", after := #[{ on := 5, ground := Ground.guard }], guard := some (5, false) }, { dst := some 47, op := Op.fieldAddr 27 (Operand.tmp 3) 0, type := 0, pos := "law.go:52", after := #[{ on := 5, ground := Ground.guard }], guard := some (5, false) }, { dst := some 48, op := Op.load 25 (Operand.tmp 47), type := 25, pos := "law.go:52", after := #[{ on := 17, ground := Ground.data }, { on := 5, ground := Ground.guard }], guard := some (5, false) }, { dst := some 49, op := Op.fieldAddr 27 (Operand.tmp 3) 1, type := 0, pos := "law.go:52", after := #[{ on := 5, ground := Ground.guard }], guard := some (5, false) }, { dst := some 50, op := Op.load 9 (Operand.tmp 49), type := 9, pos := "law.go:52", after := #[{ on := 19, ground := Ground.data }, { on := 5, ground := Ground.guard }], guard := some (5, false) }, { dst := some 51, op := Op.fieldAddr 27 (Operand.tmp 3) 2, type := 0, pos := "law.go:52", after := #[{ on := 5, ground := Ground.guard }], guard := some (5, false) }, { dst := some 52, op := Op.load 9 (Operand.tmp 51), type := 9, pos := "law.go:52", after := #[{ on := 21, ground := Ground.data }, { on := 5, ground := Ground.guard }], guard := some (5, false) }, { dst := some 53, op := Op.fieldAddr 27 (Operand.tmp 3) 3, type := 0, pos := "law.go:52", after := #[{ on := 5, ground := Ground.guard }], guard := some (5, false) }, { dst := some 54, op := Op.load 3 (Operand.tmp 53), type := 3, pos := "law.go:52", after := #[{ on := 23, ground := Ground.data }, { on := 5, ground := Ground.guard }], guard := some (5, false) }, { dst := some 55, op := Op.call { callee := Callee.value (Operand.func 14), args := #[Operand.tmp 46, Operand.tmp 48, Operand.tmp 50, Operand.tmp 52, Operand.tmp 54], argTypes := #[31, 25, 9, 9, 3] }, type := 4, pos := "law.go:52", after := #[{ on := 16, ground := Ground.data }, { on := 18, ground := Ground.data }, { on := 20, ground := Ground.data }, { on := 22, ground := Ground.data }, { on := 24, ground := Ground.data }, { on := 15, ground := Ground.chain }, { on := 5, ground := Ground.guard }], guard := some (5, false) }, { dst := some 56, op := Op.binOp BinOp.neq 4 (Operand.tmp 45) (Operand.tmp 55) 4, type := 4, pos := "law.go:52", after := #[{ on := 15, ground := Ground.data }, { on := 25, ground := Ground.data }, { on := 5, ground := Ground.guard }], guard := some (5, false) }, { dst := some 57, op := Op.pick (Operand.tmp 35) (Operand.const (Value.bool true)) (Operand.tmp 56), type := 4, pos := "law.go:52", after := #[{ on := 5, ground := Ground.data }, { on := 26, ground := Ground.data }], guard := none }] true).wp Try.prog Q { tmps := #[x0, x1, x2, .pointer (some ⟨g, 0, none⟩), x4, x5, x6, .pointer (some ⟨q, 0, none⟩), x8, x9, x10, x11, x12, x13, x14, x15, x16, x17, x18, x19, x20, x21, x22, x23, x24, x25, x26, x27, x28, x29, x30, x31, x32, x33, x34, x35, x36, x37, x38, x39, x40, x41, x42, x43, x44, x45, x46, x47, x48, x49, x50, x51, x52, x53, x54, x55, x56, x57, x58, x59, x60, x61, x62, x63, x64, x65, x66, x67, x68, x69, x70, x71, x72, x73, x74, x75, x76, x77, x78, x79, x80, x81], defers := ds } A := by
  refine Code.wp_mono (Q := fun x a' w' => match x with | .normal => Q .normal a' w' | _ => False) (by intro x a' w' h; cases x <;> first | exact h | exact h.elim) ?_
  refine wp_region_held (S := fun V => Below A.heap.size A V) (by kernel_rfl) ?_
  have hS0 : Hid (Below A.heap.size A A.drew) := below_drew0 A
  change wpAnyH Try.prog .any _ _ (fun V => Below A.heap.size A V) 28 (Array.replicate 28 false) _ A.drew
  obtain ⟨V0, hV0⟩ : ∃ V0, A.drew = V0 := ⟨_, rfl⟩
  rw [hV0]
  rw [hV0] at hS0
  clear hV0
  refine wpAnyH_take (i := 0) (oi := { dst := some 30, op := Op.load 31 (Operand.tmp 7), type := 31, pos := "law.go:52", after := #[], guard := none }) (v := .agg #[.string r.who, .string r.ch, .string r.pre, iv r.right, .bool r.deny]) rfl (by kernel_rfl) (by kernel_rfl) (by kernel_rfl) (fun _ _ _ h => h.elim) (yieldsIf_load_mid (by rfl) _ _ rfl _ _ rfl ([.string r.who, .string r.ch, .string r.pre, iv r.right, .bool r.deny]) _ (fun V hV => rangeAt_same (HR.out.range 0 5) ((show Below A.heap.size A V from hV).block _ (HR.out.lt))) Try.underlying31 rfl (size31)) hS0.out ?_
  simp only [Act.put, List.setIfInBounds_toArray, List.set_cons_zero, List.set_cons_succ]
  refine wpAnyH_take (i := 2) (oi := { dst := some 32, op := Op.load 31 (Operand.tmp 7), type := 31, pos := "law.go:52", after := #[], guard := none }) (v := .agg #[.string r.who, .string r.ch, .string r.pre, iv r.right, .bool r.deny]) rfl (by kernel_rfl) (by kernel_rfl) (by kernel_rfl) (fun _ _ _ h => h.elim) (yieldsIf_load_mid (by rfl) _ _ rfl _ _ rfl ([.string r.who, .string r.ch, .string r.pre, iv r.right, .bool r.deny]) _ (fun V hV => rangeAt_same (HR.out.range 0 5) ((show Below A.heap.size A V from hV).block _ (HR.out.lt))) Try.underlying31 rfl (size31)) hS0.out ?_
  simp only [Act.put, List.setIfInBounds_toArray, List.set_cons_zero, List.set_cons_succ]
  refine wpAnyH_ready (rs := [1]) (by kernel_rfl) (by simp) (AllReadyH.cons (i := 1) (o := { dst := some 31, op := Op.call { callee := Callee.value (Operand.func 11), args := #[Operand.tmp 30], argTypes := #[31] }, type := 4, pos := "law.go:52", after := #[{ on := 0, ground := Ground.data }], guard := none }) rfl ?_ AllReadyH.nil)
  · intro K1 hK1
    rw [if_pos (by rfl)]
    have HC1 := right_b r HRS.out V0 hb1.out
    go_wp2_with fail
    refine HC1.mono ?_
    rintro e V1 ⟨rfl, hb1⟩
    dsimp only
    clear HC1
    have hS1 : Hid (Below A.heap.size A V1) := hS0.out.trans (hb1.mono hS0.out.size)
    clear hb1
    refine hK1.out _ _ hS1.out ?_
    clear hK1
    intro _
    try simp only [Act.put, List.setIfInBounds_toArray, List.set_cons_zero, List.set_cons_succ]
    refine wpAnyH_ready (rs := [3]) (by kernel_rfl) (by simp) (AllReadyH.cons (i := 3) (o := { dst := some 33, op := Op.call { callee := Callee.value (Operand.func 12), args := #[Operand.tmp 32], argTypes := #[31] }, type := 4, pos := "law.go:52", after := #[{ on := 2, ground := Ground.data }, { on := 1, ground := Ground.chain }], guard := none }) rfl ?_ AllReadyH.nil)
    · intro K1 hK1
      rw [if_pos (by rfl)]
      have HC2 := refRight_b r HRS.out V1 hb1.out
      go_wp2_with fail
      refine HC2.mono ?_
      rintro e V2 ⟨rfl, hb2⟩
      dsimp only
      clear HC2
      have hS2 : Hid (Below A.heap.size A V2) := hS1.out.trans (hb2.mono hS1.out.size)
      clear hb2
      refine hK1.out _ _ hS2.out ?_
      clear hK1
      intro _
      try simp only [Act.put, List.setIfInBounds_toArray, List.set_cons_zero, List.set_cons_succ]
      refine wpAnyH_take (i := 4) (oi := { dst := some 34, op := Op.binOp BinOp.neq 4 (Operand.tmp 31) (Operand.tmp 33) 4, type := 4, pos := "law.go:52", after := #[{ on := 1, ground := Ground.data }, { on := 3, ground := Ground.data }], guard := none }) (v := .bool false) rfl (by kernel_rfl) (by kernel_rfl) (by kernel_rfl) (fun _ _ _ h => h.elim) (Or.inl ⟨by rfl, ?y1⟩) hS2.out ?_
      case y1 =>
        intro V hV
        cases b1 <;> go_simp
      simp only [Act.put, List.setIfInBounds_toArray, List.set_cons_zero, List.set_cons_succ]
      refine wpAnyH_take (i := 5) (oi := { dst := some 35, op := Op.move (Operand.tmp 34), type := 4, pos := "law.go:52", after := #[{ on := 4, ground := Ground.data }, { on := 3, ground := Ground.chain }], guard := none }) (v := .bool false) rfl (by kernel_rfl) (by kernel_rfl) (by kernel_rfl) (fun _ _ _ h => h.elim) (Or.inl ⟨by rfl, ?y2⟩) hS2.out ?_
      case y2 =>
        intro V hV
        go_simp
      simp only [Act.put, List.setIfInBounds_toArray, List.set_cons_zero, List.set_cons_succ]
      refine wpAnyH_take (i := 6) (oi := { dst := some 36, op := Op.load 31 (Operand.tmp 7), type := 31, pos := "law.go:52", after := #[{ on := 5, ground := Ground.guard }], guard := some (5, false) }) (v := .agg #[.string r.who, .string r.ch, .string r.pre, iv r.right, .bool r.deny]) rfl (by kernel_rfl) (by kernel_rfl) (by kernel_rfl) (fun _ _ _ h => h.elim) (yieldsIf_load_mid (by rfl) _ _ rfl _ _ rfl ([.string r.who, .string r.ch, .string r.pre, iv r.right, .bool r.deny]) _ (fun V hV => rangeAt_same (HR.out.range 0 5) ((show Below A.heap.size A V from hV).block _ (HR.out.lt))) Try.underlying31 rfl (size31)) hS2.out ?_
      simp only [Act.put, List.setIfInBounds_toArray, List.set_cons_zero, List.set_cons_succ]
      refine wpAnyH_take (i := 7) (oi := { dst := some 37, op := Op.fieldAddr 27 (Operand.tmp 3) 0, type := 0, pos := "law.go:52", after := #[{ on := 5, ground := Ground.guard }], guard := some (5, false) }) (v := .pointer (some ⟨g, 0, none⟩)) rfl (by kernel_rfl) (by kernel_rfl) (by kernel_rfl) (fun _ _ _ h => h.elim) (Or.inl ⟨by rfl, ?y3⟩) hS2.out ?_
      case y3 =>
        intro V hV
        go_simp
      simp only [Act.put, List.setIfInBounds_toArray, List.set_cons_zero, List.set_cons_succ]
      refine wpAnyH_take (i := 8) (oi := { dst := some 38, op := Op.load 25 (Operand.tmp 37), type := 25, pos := "law.go:52", after := #[{ on := 7, ground := Ground.data }, { on := 5, ground := Ground.guard }], guard := some (5, false) }) (v := .agg #[.string k.s.user, .slice k.s.ta k.s.tn k.s.tc, iv k.s.role]) rfl (by kernel_rfl) (by kernel_rfl) (by kernel_rfl) (fun _ _ _ h => h.elim) (yieldsIf_load_mid (by rfl) _ _ rfl _ _ rfl ([.string k.s.user, .slice k.s.ta k.s.tn k.s.tc, iv k.s.role]) _ (fun V hV => rangeAt_same (HA.out.range 0 3) ((show Below A.heap.size A V from hV).block _ (HA.out.lt))) Try.underlying25 rfl (size25)) hS2.out ?_
      simp only [Act.put, List.setIfInBounds_toArray, List.set_cons_zero, List.set_cons_succ]
      refine wpAnyH_take (i := 9) (oi := { dst := some 39, op := Op.fieldAddr 27 (Operand.tmp 3) 1, type := 0, pos := "law.go:52", after := #[{ on := 5, ground := Ground.guard }], guard := some (5, false) }) (v := .pointer (some ⟨g, 3, none⟩)) rfl (by kernel_rfl) (by kernel_rfl) (by kernel_rfl) (fun _ _ _ h => h.elim) (Or.inl ⟨by rfl, ?y4⟩) hS2.out ?_
      case y4 =>
        intro V hV
        go_simp
      simp only [Act.put, List.setIfInBounds_toArray, List.set_cons_zero, List.set_cons_succ]
      refine wpAnyH_take (i := 10) (oi := { dst := some 40, op := Op.load 9 (Operand.tmp 39), type := 9, pos := "law.go:52", after := #[{ on := 9, ground := Ground.data }, { on := 5, ground := Ground.guard }], guard := some (5, false) }) (v := .string k.ch) rfl (by kernel_rfl) (by kernel_rfl) (by kernel_rfl) (fun _ _ _ h => h.elim) (Or.inl ⟨by rfl, ?y5⟩) hS2.out ?_
      case y5 =>
        intro V hV
        have hc : V.cell? ⟨g, 3, none⟩ = some (.string k.ch) := ((show Below A.heap.size A V from hV).cell (p := ⟨g, 3, none⟩) HA.out.lt).trans (HA.out.cell rfl)
        go_simp
      simp only [Act.put, List.setIfInBounds_toArray, List.set_cons_zero, List.set_cons_succ]
      refine wpAnyH_take (i := 11) (oi := { dst := some 41, op := Op.fieldAddr 27 (Operand.tmp 3) 2, type := 0, pos := "law.go:52", after := #[{ on := 5, ground := Ground.guard }], guard := some (5, false) }) (v := .pointer (some ⟨g, 4, none⟩)) rfl (by kernel_rfl) (by kernel_rfl) (by kernel_rfl) (fun _ _ _ h => h.elim) (Or.inl ⟨by rfl, ?y6⟩) hS2.out ?_
      case y6 =>
        intro V hV
        go_simp
      simp only [Act.put, List.setIfInBounds_toArray, List.set_cons_zero, List.set_cons_succ]
      refine wpAnyH_take (i := 12) (oi := { dst := some 42, op := Op.load 9 (Operand.tmp 41), type := 9, pos := "law.go:52", after := #[{ on := 11, ground := Ground.data }, { on := 5, ground := Ground.guard }], guard := some (5, false) }) (v := .string k.path) rfl (by kernel_rfl) (by kernel_rfl) (by kernel_rfl) (fun _ _ _ h => h.elim) (Or.inl ⟨by rfl, ?y7⟩) hS2.out ?_
      case y7 =>
        intro V hV
        have hc : V.cell? ⟨g, 4, none⟩ = some (.string k.path) := ((show Below A.heap.size A V from hV).cell (p := ⟨g, 4, none⟩) HA.out.lt).trans (HA.out.cell rfl)
        go_simp
      simp only [Act.put, List.setIfInBounds_toArray, List.set_cons_zero, List.set_cons_succ]
      refine wpAnyH_take (i := 13) (oi := { dst := some 43, op := Op.fieldAddr 27 (Operand.tmp 3) 3, type := 0, pos := "law.go:52", after := #[{ on := 5, ground := Ground.guard }], guard := some (5, false) }) (v := .pointer (some ⟨g, 5, none⟩)) rfl (by kernel_rfl) (by kernel_rfl) (by kernel_rfl) (fun _ _ _ h => h.elim) (Or.inl ⟨by rfl, ?y8⟩) hS2.out ?_
      case y8 =>
        intro V hV
        go_simp
      simp only [Act.put, List.setIfInBounds_toArray, List.set_cons_zero, List.set_cons_succ]
      refine wpAnyH_take (i := 14) (oi := { dst := some 44, op := Op.load 3 (Operand.tmp 43), type := 3, pos := "law.go:52", after := #[{ on := 13, ground := Ground.data }, { on := 5, ground := Ground.guard }], guard := some (5, false) }) (v := iv k.right) rfl (by kernel_rfl) (by kernel_rfl) (by kernel_rfl) (fun _ _ _ h => h.elim) (Or.inl ⟨by rfl, ?y9⟩) hS2.out ?_
      case y9 =>
        intro V hV
        have hc : V.cell? ⟨g, 5, none⟩ = some (iv k.right) := ((show Below A.heap.size A V from hV).cell (p := ⟨g, 5, none⟩) HA.out.lt).trans (HA.out.cell rfl)
        go_simp
      simp only [Act.put, List.setIfInBounds_toArray, List.set_cons_zero, List.set_cons_succ]
      refine wpAnyH_take (i := 16) (oi := { dst := some 46, op := Op.load 31 (Operand.tmp 7), type := 31, pos := "law.go:52", after := #[{ on := 5, ground := Ground.guard }], guard := some (5, false) }) (v := .agg #[.string r.who, .string r.ch, .string r.pre, iv r.right, .bool r.deny]) rfl (by kernel_rfl) (by kernel_rfl) (by kernel_rfl) (fun _ _ _ h => h.elim) (yieldsIf_load_mid (by rfl) _ _ rfl _ _ rfl ([.string r.who, .string r.ch, .string r.pre, iv r.right, .bool r.deny]) _ (fun V hV => rangeAt_same (HR.out.range 0 5) ((show Below A.heap.size A V from hV).block _ (HR.out.lt))) Try.underlying31 rfl (size31)) hS2.out ?_
      simp only [Act.put, List.setIfInBounds_toArray, List.set_cons_zero, List.set_cons_succ]
      refine wpAnyH_take (i := 17) (oi := { dst := some 47, op := Op.fieldAddr 27 (Operand.tmp 3) 0, type := 0, pos := "law.go:52", after := #[{ on := 5, ground := Ground.guard }], guard := some (5, false) }) (v := .pointer (some ⟨g, 0, none⟩)) rfl (by kernel_rfl) (by kernel_rfl) (by kernel_rfl) (fun _ _ _ h => h.elim) (Or.inl ⟨by rfl, ?y10⟩) hS2.out ?_
      case y10 =>
        intro V hV
        go_simp
      simp only [Act.put, List.setIfInBounds_toArray, List.set_cons_zero, List.set_cons_succ]
      refine wpAnyH_take (i := 18) (oi := { dst := some 48, op := Op.load 25 (Operand.tmp 47), type := 25, pos := "law.go:52", after := #[{ on := 17, ground := Ground.data }, { on := 5, ground := Ground.guard }], guard := some (5, false) }) (v := .agg #[.string k.s.user, .slice k.s.ta k.s.tn k.s.tc, iv k.s.role]) rfl (by kernel_rfl) (by kernel_rfl) (by kernel_rfl) (fun _ _ _ h => h.elim) (yieldsIf_load_mid (by rfl) _ _ rfl _ _ rfl ([.string k.s.user, .slice k.s.ta k.s.tn k.s.tc, iv k.s.role]) _ (fun V hV => rangeAt_same (HA.out.range 0 3) ((show Below A.heap.size A V from hV).block _ (HA.out.lt))) Try.underlying25 rfl (size25)) hS2.out ?_
      simp only [Act.put, List.setIfInBounds_toArray, List.set_cons_zero, List.set_cons_succ]
      refine wpAnyH_take (i := 19) (oi := { dst := some 49, op := Op.fieldAddr 27 (Operand.tmp 3) 1, type := 0, pos := "law.go:52", after := #[{ on := 5, ground := Ground.guard }], guard := some (5, false) }) (v := .pointer (some ⟨g, 3, none⟩)) rfl (by kernel_rfl) (by kernel_rfl) (by kernel_rfl) (fun _ _ _ h => h.elim) (Or.inl ⟨by rfl, ?y11⟩) hS2.out ?_
      case y11 =>
        intro V hV
        go_simp
      simp only [Act.put, List.setIfInBounds_toArray, List.set_cons_zero, List.set_cons_succ]
      refine wpAnyH_take (i := 20) (oi := { dst := some 50, op := Op.load 9 (Operand.tmp 49), type := 9, pos := "law.go:52", after := #[{ on := 19, ground := Ground.data }, { on := 5, ground := Ground.guard }], guard := some (5, false) }) (v := .string k.ch) rfl (by kernel_rfl) (by kernel_rfl) (by kernel_rfl) (fun _ _ _ h => h.elim) (Or.inl ⟨by rfl, ?y12⟩) hS2.out ?_
      case y12 =>
        intro V hV
        have hc : V.cell? ⟨g, 3, none⟩ = some (.string k.ch) := ((show Below A.heap.size A V from hV).cell (p := ⟨g, 3, none⟩) HA.out.lt).trans (HA.out.cell rfl)
        go_simp
      simp only [Act.put, List.setIfInBounds_toArray, List.set_cons_zero, List.set_cons_succ]
      refine wpAnyH_take (i := 21) (oi := { dst := some 51, op := Op.fieldAddr 27 (Operand.tmp 3) 2, type := 0, pos := "law.go:52", after := #[{ on := 5, ground := Ground.guard }], guard := some (5, false) }) (v := .pointer (some ⟨g, 4, none⟩)) rfl (by kernel_rfl) (by kernel_rfl) (by kernel_rfl) (fun _ _ _ h => h.elim) (Or.inl ⟨by rfl, ?y13⟩) hS2.out ?_
      case y13 =>
        intro V hV
        go_simp
      simp only [Act.put, List.setIfInBounds_toArray, List.set_cons_zero, List.set_cons_succ]
      refine wpAnyH_take (i := 22) (oi := { dst := some 52, op := Op.load 9 (Operand.tmp 51), type := 9, pos := "law.go:52", after := #[{ on := 21, ground := Ground.data }, { on := 5, ground := Ground.guard }], guard := some (5, false) }) (v := .string k.path) rfl (by kernel_rfl) (by kernel_rfl) (by kernel_rfl) (fun _ _ _ h => h.elim) (Or.inl ⟨by rfl, ?y14⟩) hS2.out ?_
      case y14 =>
        intro V hV
        have hc : V.cell? ⟨g, 4, none⟩ = some (.string k.path) := ((show Below A.heap.size A V from hV).cell (p := ⟨g, 4, none⟩) HA.out.lt).trans (HA.out.cell rfl)
        go_simp
      simp only [Act.put, List.setIfInBounds_toArray, List.set_cons_zero, List.set_cons_succ]
      refine wpAnyH_take (i := 23) (oi := { dst := some 53, op := Op.fieldAddr 27 (Operand.tmp 3) 3, type := 0, pos := "law.go:52", after := #[{ on := 5, ground := Ground.guard }], guard := some (5, false) }) (v := .pointer (some ⟨g, 5, none⟩)) rfl (by kernel_rfl) (by kernel_rfl) (by kernel_rfl) (fun _ _ _ h => h.elim) (Or.inl ⟨by rfl, ?y15⟩) hS2.out ?_
      case y15 =>
        intro V hV
        go_simp
      simp only [Act.put, List.setIfInBounds_toArray, List.set_cons_zero, List.set_cons_succ]
      refine wpAnyH_take (i := 24) (oi := { dst := some 54, op := Op.load 3 (Operand.tmp 53), type := 3, pos := "law.go:52", after := #[{ on := 23, ground := Ground.data }, { on := 5, ground := Ground.guard }], guard := some (5, false) }) (v := iv k.right) rfl (by kernel_rfl) (by kernel_rfl) (by kernel_rfl) (fun _ _ _ h => h.elim) (Or.inl ⟨by rfl, ?y16⟩) hS2.out ?_
      case y16 =>
        intro V hV
        have hc : V.cell? ⟨g, 5, none⟩ = some (iv k.right) := ((show Below A.heap.size A V from hV).cell (p := ⟨g, 5, none⟩) HA.out.lt).trans (HA.out.cell rfl)
        go_simp
      simp only [Act.put, List.setIfInBounds_toArray, List.set_cons_zero, List.set_cons_succ]
      refine wpAnyH_ready (rs := [15]) (by kernel_rfl) (by simp) (AllReadyH.cons (i := 15) (o := { dst := some 45, op := Op.call { callee := Callee.value (Operand.func 13), args := #[Operand.tmp 36, Operand.tmp 38, Operand.tmp 40, Operand.tmp 42, Operand.tmp 44], argTypes := #[31, 25, 9, 9, 3] }, type := 4, pos := "law.go:52", after := #[{ on := 6, ground := Ground.data }, { on := 8, ground := Ground.data }, { on := 10, ground := Ground.data }, { on := 12, ground := Ground.data }, { on := 14, ground := Ground.data }, { on := 5, ground := Ground.chain }, { on := 5, ground := Ground.guard }], guard := some (5, false) }) rfl ?_ AllReadyH.nil)
      · intro K1 hK1
        rw [if_pos (by rfl)]
        have HC3 := matches_b r k HRS.out V2 (HK.out.1.below hS2.out) hb2.out
        go_wp2_with fail
        refine HC3.mono ?_
        rintro e V3 ⟨rfl, hb3⟩
        dsimp only
        clear HC3
        have hS3 : Hid (Below A.heap.size A V3) := hS2.out.trans (hb3.mono hS2.out.size)
        clear hb3
        refine hK1.out _ _ hS3.out ?_
        clear hK1
        intro _
        try simp only [Act.put, List.setIfInBounds_toArray, List.set_cons_zero, List.set_cons_succ]
        refine wpAnyH_ready (rs := [25]) (by kernel_rfl) (by simp) (AllReadyH.cons (i := 25) (o := { dst := some 55, op := Op.call { callee := Callee.value (Operand.func 14), args := #[Operand.tmp 46, Operand.tmp 48, Operand.tmp 50, Operand.tmp 52, Operand.tmp 54], argTypes := #[31, 25, 9, 9, 3] }, type := 4, pos := "law.go:52", after := #[{ on := 16, ground := Ground.data }, { on := 18, ground := Ground.data }, { on := 20, ground := Ground.data }, { on := 22, ground := Ground.data }, { on := 24, ground := Ground.data }, { on := 15, ground := Ground.chain }, { on := 5, ground := Ground.guard }], guard := some (5, false) }) rfl ?_ AllReadyH.nil)
        · intro K1 hK1
          rw [if_pos (by rfl)]
          have HC4 := refMatches_k r k HRS.out V3 (HK.out.1.below hS3.out) HK.out.2 hb2.out
          go_wp2_with fail
          refine HC4.mono ?_
          rintro e V4 ⟨rfl, hb4⟩
          dsimp only
          clear HC4
          have hS4 : Hid (Below A.heap.size A V4) := hS3.out.trans (hb4.mono hS3.out.size)
          clear hb4
          refine hK1.out _ _ hS4.out ?_
          clear hK1
          intro _
          try simp only [Act.put, List.setIfInBounds_toArray, List.set_cons_zero, List.set_cons_succ]
          refine wpAnyH_take (i := 26) (oi := { dst := some 56, op := Op.binOp BinOp.neq 4 (Operand.tmp 45) (Operand.tmp 55) 4, type := 4, pos := "law.go:52", after := #[{ on := 15, ground := Ground.data }, { on := 25, ground := Ground.data }, { on := 5, ground := Ground.guard }], guard := some (5, false) }) (v := .bool false) rfl (by kernel_rfl) (by kernel_rfl) (by kernel_rfl) (fun _ _ _ h => h.elim) (Or.inl ⟨by rfl, ?y17⟩) hS4.out ?_
          case y17 =>
            intro V hV
            cases b2 <;> go_simp
          simp only [Act.put, List.setIfInBounds_toArray, List.set_cons_zero, List.set_cons_succ]
          refine wpAnyH_take (i := 27) (oi := { dst := some 57, op := Op.pick (Operand.tmp 35) (Operand.const (Value.bool true)) (Operand.tmp 56), type := 4, pos := "law.go:52", after := #[{ on := 5, ground := Ground.data }, { on := 26, ground := Ground.data }], guard := none }) (v := .bool false) rfl (by kernel_rfl) (by kernel_rfl) (by kernel_rfl) (fun _ _ _ h => h.elim) (Or.inl ⟨by rfl, ?y18⟩) hS4.out ?_
          case y18 =>
            intro V hV
            go_simp
          simp only [Act.put, List.setIfInBounds_toArray, List.set_cons_zero, List.set_cons_succ]
          refine wpAnyH_done (by kernel_rfl) ?_ _
          exact hQ V4 hS4.out
#print axioms decs_reg8
set_option maxRecDepth 100000 in
set_option maxHeartbeats 4000000 in
theorem decs_reg10 {Q : Exit → Act → World → Prop} {x0 x1 x2 x3 x4 x8 x9 x10 x11 x12 x13 x14 x15 x16 x17 x18 x19 x20 x21 x22 x23 x24 x25 x26 x27 x28 x29 x30 x31 x32 x33 x34 x35 x36 x37 x38 x39 x40 x41 x42 x43 x44 x45 x46 x47 x48 x49 x50 x51 x52 x53 x54 x55 x56 x57 x58 x59 x60 x61 x62 x63 x64 x65 x66 x67 x68 x69 x70 x71 x72 x73 x74 x75 x76 x77 x78 x79 x80 x81 : Value} {ds : List Deferred} {A : World} {b off n c5 i q : Nat} {r : Ru}
    (HW : Hid (A.rangeAt b (off + i * 5) r.cells ∧ b < A.heap.size)) (HR : Hid (Blk A q 31 [.string r.who, .string r.ch, .string r.pre, iv r.right, .bool r.deny])) (HRS : Hid r.short) (q1 : (i : Int) < (n : Int))
    (hQ : ∀ V1, Below A.heap.size A V1 → Q .normal { tmps := #[x0, x1, x2, x3, x4, .slice (some ⟨b, off, none⟩) n c5, iv (i : Int), .pointer (some ⟨q, 0, none⟩), x8, x9, x10, x11, x12, x13, x14, x15, x16, x17, x18, x19, x20, x21, x22, x23, x24, x25, x26, x27, x28, x29, x30, x31, x32, x33, x34, x35, x36, x37, x38, x39, x40, x41, x42, x43, x44, x45, x46, x47, x48, x49, x50, x51, x52, x53, x54, x55, x56, x57, .slice (some ⟨b, off, none⟩) n c5, iv (i : Int), .pointer (some ⟨b, off + i * 5, none⟩), .agg #[.string r.who, .string r.ch, .string r.pre, iv r.right, .bool r.deny], .agg #[.string r.who, .string r.ch, .string r.pre, iv r.right, .bool r.deny], .bool false, x64, x65, x66, x67, x68, x69, x70, x71, x72, x73, x74, x75, x76, x77, x78, x79, x80, x81], defers := ds } V1) :
    (Code.region 10 #[{ dst := some 58, op := Op.move (Operand.tmp 5), type := 22, pos := "law.go:55", after := #[], guard := none }, { dst := some 59, op := Op.move (Operand.tmp 6), type := 3, pos := "law.go:55", after := #[], guard := none }, { dst := some 60, op := Op.indexAddr 22 (Operand.tmp 58) (Operand.tmp 59), type := 0, pos := "law.go:55", after := #[{ on := 0, ground := Ground.data }, { on := 1, ground := Ground.data }], guard := none }, { dst := some 61, op := Op.load 31 (Operand.tmp 60), type := 31, pos := "law.go:55", after := #[{ on := 2, ground := Ground.data }], guard := none }, { dst := some 62, op := Op.load 31 (Operand.tmp 7), type := 31, pos := "law.go:55", after := #[], guard := none }, { dst := some 63, op := Op.binOp BinOp.neq 31 (Operand.tmp 61) (Operand.tmp 62) 31, type := 4, pos := "law.go:55", after := #[{ on := 3, ground := Ground.data }, { on := 4, ground := Ground.data }], guard := none }] true).wp Try.prog Q { tmps := #[x0, x1, x2, x3, x4, .slice (some ⟨b, off, none⟩) n c5, iv (i : Int), .pointer (some ⟨q, 0, none⟩), x8, x9, x10, x11, x12, x13, x14, x15, x16, x17, x18, x19, x20, x21, x22, x23, x24, x25, x26, x27, x28, x29, x30, x31, x32, x33, x34, x35, x36, x37, x38, x39, x40, x41, x42, x43, x44, x45, x46, x47, x48, x49, x50, x51, x52, x53, x54, x55, x56, x57, x58, x59, x60, x61, x62, x63, x64, x65, x66, x67, x68, x69, x70, x71, x72, x73, x74, x75, x76, x77, x78, x79, x80, x81], defers := ds } A := by
  refine Code.wp_mono (Q := fun x a' w' => match x with | .normal => Q .normal a' w' | _ => False) (by intro x a' w' h; cases x <;> first | exact h | exact h.elim) ?_
  refine wp_region_held (S := fun V => Below A.heap.size A V) (by kernel_rfl) ?_
  have hS0 : Hid (Below A.heap.size A A.drew) := below_drew0 A
  change wpAnyH Try.prog .any _ _ (fun V => Below A.heap.size A V) 6 (Array.replicate 6 false) _ A.drew
  obtain ⟨V0, hV0⟩ : ∃ V0, A.drew = V0 := ⟨_, rfl⟩
  rw [hV0]
  rw [hV0] at hS0
  clear hV0
  refine wpAnyH_take (i := 0) (oi := { dst := some 58, op := Op.move (Operand.tmp 5), type := 22, pos := "law.go:55", after := #[], guard := none }) (v := .slice (some ⟨b, off, none⟩) n c5) rfl (by kernel_rfl) (by kernel_rfl) (by kernel_rfl) (fun _ _ _ h => h.elim) (Or.inl ⟨by rfl, ?y1⟩) hS0.out ?_
  case y1 =>
    intro V hV
    go_simp
  simp only [Act.put, List.setIfInBounds_toArray, List.set_cons_zero, List.set_cons_succ]
  refine wpAnyH_take (i := 1) (oi := { dst := some 59, op := Op.move (Operand.tmp 6), type := 3, pos := "law.go:55", after := #[], guard := none }) (v := iv (i : Int)) rfl (by kernel_rfl) (by kernel_rfl) (by kernel_rfl) (fun _ _ _ h => h.elim) (Or.inl ⟨by rfl, ?y2⟩) hS0.out ?_
  case y2 =>
    intro V hV
    go_simp
  simp only [Act.put, List.setIfInBounds_toArray, List.set_cons_zero, List.set_cons_succ]
  refine wpAnyH_take (i := 2) (oi := { dst := some 60, op := Op.indexAddr 22 (Operand.tmp 58) (Operand.tmp 59), type := 0, pos := "law.go:55", after := #[{ on := 0, ground := Ground.data }, { on := 1, ground := Ground.data }], guard := none }) (v := .pointer (some ⟨b, off + i * 5, none⟩)) rfl (by kernel_rfl) (by kernel_rfl) (by kernel_rfl) (fun _ _ _ h => h.elim) (Or.inl ⟨by rfl, ?y3⟩) hS0.out ?_
  case y3 =>
    intro V hV
    go_simp
  simp only [Act.put, List.setIfInBounds_toArray, List.set_cons_zero, List.set_cons_succ]
  refine wpAnyH_take (i := 3) (oi := { dst := some 61, op := Op.load 31 (Operand.tmp 60), type := 31, pos := "law.go:55", after := #[{ on := 2, ground := Ground.data }], guard := none }) (v := .agg #[.string r.who, .string r.ch, .string r.pre, iv r.right, .bool r.deny]) rfl (by kernel_rfl) (by kernel_rfl) (by kernel_rfl) (fun _ _ _ h => h.elim) (yieldsIf_load_mid (by rfl) _ _ rfl _ _ rfl ([.string r.who, .string r.ch, .string r.pre, iv r.right, .bool r.deny]) _ (fun V hV => rangeAt_same (HW.out.1) ((show Below A.heap.size A V from hV).block _ (HW.out.2))) Try.underlying31 rfl (size31)) hS0.out ?_
  simp only [Act.put, List.setIfInBounds_toArray, List.set_cons_zero, List.set_cons_succ]
  refine wpAnyH_take (i := 4) (oi := { dst := some 62, op := Op.load 31 (Operand.tmp 7), type := 31, pos := "law.go:55", after := #[], guard := none }) (v := .agg #[.string r.who, .string r.ch, .string r.pre, iv r.right, .bool r.deny]) rfl (by kernel_rfl) (by kernel_rfl) (by kernel_rfl) (fun _ _ _ h => h.elim) (yieldsIf_load_mid (by rfl) _ _ rfl _ _ rfl ([.string r.who, .string r.ch, .string r.pre, iv r.right, .bool r.deny]) _ (fun V hV => rangeAt_same (HR.out.range 0 5) ((show Below A.heap.size A V from hV).block _ (HR.out.lt))) Try.underlying31 rfl (size31)) hS0.out ?_
  simp only [Act.put, List.setIfInBounds_toArray, List.set_cons_zero, List.set_cons_succ]
  refine wpAnyH_take (i := 5) (oi := { dst := some 63, op := Op.binOp BinOp.neq 31 (Operand.tmp 61) (Operand.tmp 62) 31, type := 4, pos := "law.go:55", after := #[{ on := 3, ground := Ground.data }, { on := 4, ground := Ground.data }], guard := none }) (v := .bool false) rfl (by kernel_rfl) (by kernel_rfl) (by kernel_rfl) (fun _ _ _ h => h.elim) (Or.inl ⟨by rfl, ?y4⟩) hS0.out ?_
  case y4 =>
    intro V hV
    go_simp
  simp only [Act.put, List.setIfInBounds_toArray, List.set_cons_zero, List.set_cons_succ]
  refine wpAnyH_done (by kernel_rfl) ?_ _
  exact hQ V0 hS0.out
#print axioms decs_reg10
set_option maxRecDepth 100000 in
set_option maxHeartbeats 4000000 in
theorem decs_reg13 {Q : Exit → Act → World → Prop} {x1 x2 x4 x6 x7 x8 x9 x10 x11 x12 x13 x14 x15 x16 x17 x18 x19 x20 x21 x22 x23 x24 x25 x26 x27 x28 x29 x30 x31 x32 x33 x34 x35 x36 x37 x38 x39 x40 x41 x42 x43 x44 x45 x46 x47 x48 x49 x50 x51 x52 x53 x54 x55 x56 x57 x58 x59 x60 x61 x62 x63 x64 x65 x66 x67 x68 x69 x70 x71 x72 x73 x74 x75 x76 x77 x78 x79 x80 x81 : Value} {ds : List Deferred} {A : World} {g n cp cm : Nat} {a am : Option Addr} {l : List Ru} {k : Ak} {D : Bool}
    (HA : Hid (Blk A g 27 [.string k.s.user, .slice k.s.ta k.s.tn k.s.tc, iv k.s.role, .string k.ch, .string k.path, iv k.right])) (HK : Hid (k.at A ∧ k.wide)) (HL : Hid (RuS A a n l ∧ RuS A am n l ∧ n ≤ 2199023255551)) (hd : Hid (dec l k = D))
    (hQ : ∀ V1, Below A.heap.size A V1 → Q .normal { tmps := #[.slice a n cp, x1, x2, .pointer (some ⟨g, 0, none⟩), .bool true, .slice am n cm, x6, x7, x8, x9, x10, x11, x12, x13, x14, x15, x16, x17, x18, x19, x20, x21, x22, x23, x24, x25, x26, x27, x28, x29, x30, x31, x32, x33, x34, x35, x36, x37, x38, x39, x40, x41, x42, x43, x44, x45, x46, x47, x48, x49, x50, x51, x52, x53, x54, x55, x56, x57, x58, x59, x60, x61, x62, x63, x64, .slice am n cm, .agg #[.string k.s.user, .slice k.s.ta k.s.tn k.s.tc, iv k.s.role, .string k.ch, .string k.path, iv k.right], .bool D, .slice a n cp, .pointer (some ⟨g, 0, none⟩), .agg #[.string k.s.user, .slice k.s.ta k.s.tn k.s.tc, iv k.s.role], .pointer (some ⟨g, 3, none⟩), .string k.ch, .pointer (some ⟨g, 4, none⟩), .string k.path, .pointer (some ⟨g, 5, none⟩), iv k.right, .bool D, .bool true, .bool true, .bool true, .bool true], defers := ds } V1) :
    (Code.region 13 #[{ dst := some 65, op := Op.move (Operand.tmp 5), type := 22, pos := "law.go:59", after := #[], guard := none }, { dst := some 66, op := Op.load 27 (Operand.tmp 3), type := 27, pos := "law.go:59", after := #[], guard := none }, { dst := some 67, op := Op.call { callee := Callee.value (Operand.func 15), args := #[Operand.tmp 65, Operand.tmp 66], argTypes := #[22, 27] }, type := 4, pos := "law.go:59", after := #[{ on := 0, ground := Ground.data }, { on := 1, ground := Ground.data }], guard := none }, { dst := some 68, op := Op.move (Operand.tmp 0), type := 22, pos := "law.go:59", after := #[], guard := none }, { dst := some 69, op := Op.fieldAddr 27 (Operand.tmp 3) 0, type := 0, pos := "law.go:59", after := #[], guard := none }, { dst := some 70, op := Op.load 25 (Operand.tmp 69), type := 25, pos := "law.go:59", after := #[{ on := 4, ground := Ground.data }], guard := none }, { dst := some 71, op := Op.fieldAddr 27 (Operand.tmp 3) 1, type := 0, pos := "law.go:59", after := #[], guard := none }, { dst := some 72, op := Op.load 9 (Operand.tmp 71), type := 9, pos := "law.go:59", after := #[{ on := 6, ground := Ground.data }], guard := none }, { dst := some 73, op := Op.fieldAddr 27 (Operand.tmp 3) 2, type := 0, pos := "law.go:59", after := #[], guard := none }, { dst := some 74, op := Op.load 9 (Operand.tmp 73), type := 9, pos := "law.go:59", after := #[{ on := 8, ground := Ground.data }], guard := none }, { dst := some 75, op := Op.fieldAddr 27 (Operand.tmp 3) 3, type := 0, pos := "law.go:59", after := #[], guard := none }, { dst := some 76, op := Op.load 3 (Operand.tmp 75), type := 3, pos := "law.go:59", after := #[{ on := 10, ground := Ground.data }], guard := none }, { dst := some 77, op := Op.call { callee := Callee.value (Operand.func 16), args := #[Operand.tmp 68, Operand.tmp 70, Operand.tmp 72, Operand.tmp 74, Operand.tmp 76], argTypes := #[22, 25, 9, 9, 3] }, type := 4, pos := "law.go:59", after := #[{ on := 3, ground := Ground.data }, { on := 5, ground := Ground.data }, { on := 7, ground := Ground.data }, { on := 9, ground := Ground.data }, { on := 11, ground := Ground.data }, { on := 2, ground := Ground.chain }], guard := none }, { dst := some 78, op := Op.binOp BinOp.eql 4 (Operand.tmp 67) (Operand.tmp 77) 4, type := 4, pos := "law.go:59", after := #[{ on := 2, ground := Ground.data }, { on := 12, ground := Ground.data }], guard := none }, { dst := some 79, op := Op.move (Operand.tmp 78), type := 4, pos := "law.go:59", after := #[{ on := 13, ground := Ground.data }, { on := 12, ground := Ground.chain }], guard := none }, { dst := some 80, op := Op.call { callee := Callee.value (Operand.func 10), args := #[], argTypes := #[] }, type := 4, pos := "law.go:59", after := #[{ on := 14, ground := Ground.chain }, { on := 14, ground := Ground.guard }], guard := some (14, true) }, { dst := some 81, op := Op.pick (Operand.tmp 79) (Operand.tmp 80) (Operand.const (Value.bool false)), type := 4, pos := "law.go:59", after := #[{ on := 14, ground := Ground.data }, { on := 15, ground := Ground.data }], guard := none }, { dst := some 4, op := Op.assign (Operand.tmp 81), type := 4, pos := "law.go:59", after := #[{ on := 16, ground := Ground.data }, { on := 15, ground := Ground.chain }, { on := 0, ground := Ground.phase }, { on := 1, ground := Ground.phase }, { on := 2, ground := Ground.phase }, { on := 3, ground := Ground.phase }, { on := 4, ground := Ground.phase }, { on := 5, ground := Ground.phase }, { on := 6, ground := Ground.phase }, { on := 7, ground := Ground.phase }, { on := 8, ground := Ground.phase }, { on := 9, ground := Ground.phase }, { on := 10, ground := Ground.phase }, { on := 11, ground := Ground.phase }, { on := 12, ground := Ground.phase }, { on := 13, ground := Ground.phase }, { on := 14, ground := Ground.phase }, { on := 15, ground := Ground.phase }, { on := 16, ground := Ground.phase }], guard := none }] true).wp Try.prog Q { tmps := #[.slice a n cp, x1, x2, .pointer (some ⟨g, 0, none⟩), x4, .slice am n cm, x6, x7, x8, x9, x10, x11, x12, x13, x14, x15, x16, x17, x18, x19, x20, x21, x22, x23, x24, x25, x26, x27, x28, x29, x30, x31, x32, x33, x34, x35, x36, x37, x38, x39, x40, x41, x42, x43, x44, x45, x46, x47, x48, x49, x50, x51, x52, x53, x54, x55, x56, x57, x58, x59, x60, x61, x62, x63, x64, x65, x66, x67, x68, x69, x70, x71, x72, x73, x74, x75, x76, x77, x78, x79, x80, x81], defers := ds } A := by
  refine Code.wp_mono (Q := fun x a' w' => match x with | .normal => Q .normal a' w' | _ => False) (by intro x a' w' h; cases x <;> first | exact h | exact h.elim) ?_
  refine wp_region_held (S := fun V => Below A.heap.size A V) (by kernel_rfl) ?_
  have hS0 : Hid (Below A.heap.size A A.drew) := below_drew0 A
  change wpAnyH Try.prog .any _ _ (fun V => Below A.heap.size A V) 18 (Array.replicate 18 false) _ A.drew
  obtain ⟨V0, hV0⟩ : ∃ V0, A.drew = V0 := ⟨_, rfl⟩
  rw [hV0]
  rw [hV0] at hS0
  clear hV0
  refine wpAnyH_take (i := 0) (oi := { dst := some 65, op := Op.move (Operand.tmp 5), type := 22, pos := "law.go:59", after := #[], guard := none }) (v := .slice am n cm) rfl (by kernel_rfl) (by kernel_rfl) (by kernel_rfl) (fun _ _ _ h => h.elim) (Or.inl ⟨by rfl, ?y1⟩) hS0.out ?_
  case y1 =>
    intro V hV
    go_simp
  simp only [Act.put, List.setIfInBounds_toArray, List.set_cons_zero, List.set_cons_succ]
  refine wpAnyH_take (i := 1) (oi := { dst := some 66, op := Op.load 27 (Operand.tmp 3), type := 27, pos := "law.go:59", after := #[], guard := none }) (v := .agg #[.string k.s.user, .slice k.s.ta k.s.tn k.s.tc, iv k.s.role, .string k.ch, .string k.path, iv k.right]) rfl (by kernel_rfl) (by kernel_rfl) (by kernel_rfl) (fun _ _ _ h => h.elim) (yieldsIf_load_mid (by rfl) _ _ rfl _ _ rfl ([.string k.s.user, .slice k.s.ta k.s.tn k.s.tc, iv k.s.role, .string k.ch, .string k.path, iv k.right]) _ (fun V hV => rangeAt_same (HA.out.range 0 6) ((show Below A.heap.size A V from hV).block _ (HA.out.lt))) Try.underlying27 rfl (size27)) hS0.out ?_
  simp only [Act.put, List.setIfInBounds_toArray, List.set_cons_zero, List.set_cons_succ]
  refine wpAnyH_take (i := 3) (oi := { dst := some 68, op := Op.move (Operand.tmp 0), type := 22, pos := "law.go:59", after := #[], guard := none }) (v := .slice a n cp) rfl (by kernel_rfl) (by kernel_rfl) (by kernel_rfl) (fun _ _ _ h => h.elim) (Or.inl ⟨by rfl, ?y2⟩) hS0.out ?_
  case y2 =>
    intro V hV
    go_simp
  simp only [Act.put, List.setIfInBounds_toArray, List.set_cons_zero, List.set_cons_succ]
  refine wpAnyH_take (i := 4) (oi := { dst := some 69, op := Op.fieldAddr 27 (Operand.tmp 3) 0, type := 0, pos := "law.go:59", after := #[], guard := none }) (v := .pointer (some ⟨g, 0, none⟩)) rfl (by kernel_rfl) (by kernel_rfl) (by kernel_rfl) (fun _ _ _ h => h.elim) (Or.inl ⟨by rfl, ?y3⟩) hS0.out ?_
  case y3 =>
    intro V hV
    go_simp
  simp only [Act.put, List.setIfInBounds_toArray, List.set_cons_zero, List.set_cons_succ]
  refine wpAnyH_take (i := 5) (oi := { dst := some 70, op := Op.load 25 (Operand.tmp 69), type := 25, pos := "law.go:59", after := #[{ on := 4, ground := Ground.data }], guard := none }) (v := .agg #[.string k.s.user, .slice k.s.ta k.s.tn k.s.tc, iv k.s.role]) rfl (by kernel_rfl) (by kernel_rfl) (by kernel_rfl) (fun _ _ _ h => h.elim) (yieldsIf_load_mid (by rfl) _ _ rfl _ _ rfl ([.string k.s.user, .slice k.s.ta k.s.tn k.s.tc, iv k.s.role]) _ (fun V hV => rangeAt_same (HA.out.range 0 3) ((show Below A.heap.size A V from hV).block _ (HA.out.lt))) Try.underlying25 rfl (size25)) hS0.out ?_
  simp only [Act.put, List.setIfInBounds_toArray, List.set_cons_zero, List.set_cons_succ]
  refine wpAnyH_take (i := 6) (oi := { dst := some 71, op := Op.fieldAddr 27 (Operand.tmp 3) 1, type := 0, pos := "law.go:59", after := #[], guard := none }) (v := .pointer (some ⟨g, 3, none⟩)) rfl (by kernel_rfl) (by kernel_rfl) (by kernel_rfl) (fun _ _ _ h => h.elim) (Or.inl ⟨by rfl, ?y4⟩) hS0.out ?_
  case y4 =>
    intro V hV
    go_simp
  simp only [Act.put, List.setIfInBounds_toArray, List.set_cons_zero, List.set_cons_succ]
  refine wpAnyH_take (i := 7) (oi := { dst := some 72, op := Op.load 9 (Operand.tmp 71), type := 9, pos := "law.go:59", after := #[{ on := 6, ground := Ground.data }], guard := none }) (v := .string k.ch) rfl (by kernel_rfl) (by kernel_rfl) (by kernel_rfl) (fun _ _ _ h => h.elim) (Or.inl ⟨by rfl, ?y5⟩) hS0.out ?_
  case y5 =>
    intro V hV
    have hc : V.cell? ⟨g, 3, none⟩ = some (.string k.ch) := ((show Below A.heap.size A V from hV).cell (p := ⟨g, 3, none⟩) HA.out.lt).trans (HA.out.cell rfl)
    go_simp
  simp only [Act.put, List.setIfInBounds_toArray, List.set_cons_zero, List.set_cons_succ]
  refine wpAnyH_take (i := 8) (oi := { dst := some 73, op := Op.fieldAddr 27 (Operand.tmp 3) 2, type := 0, pos := "law.go:59", after := #[], guard := none }) (v := .pointer (some ⟨g, 4, none⟩)) rfl (by kernel_rfl) (by kernel_rfl) (by kernel_rfl) (fun _ _ _ h => h.elim) (Or.inl ⟨by rfl, ?y6⟩) hS0.out ?_
  case y6 =>
    intro V hV
    go_simp
  simp only [Act.put, List.setIfInBounds_toArray, List.set_cons_zero, List.set_cons_succ]
  refine wpAnyH_take (i := 9) (oi := { dst := some 74, op := Op.load 9 (Operand.tmp 73), type := 9, pos := "law.go:59", after := #[{ on := 8, ground := Ground.data }], guard := none }) (v := .string k.path) rfl (by kernel_rfl) (by kernel_rfl) (by kernel_rfl) (fun _ _ _ h => h.elim) (Or.inl ⟨by rfl, ?y7⟩) hS0.out ?_
  case y7 =>
    intro V hV
    have hc : V.cell? ⟨g, 4, none⟩ = some (.string k.path) := ((show Below A.heap.size A V from hV).cell (p := ⟨g, 4, none⟩) HA.out.lt).trans (HA.out.cell rfl)
    go_simp
  simp only [Act.put, List.setIfInBounds_toArray, List.set_cons_zero, List.set_cons_succ]
  refine wpAnyH_take (i := 10) (oi := { dst := some 75, op := Op.fieldAddr 27 (Operand.tmp 3) 3, type := 0, pos := "law.go:59", after := #[], guard := none }) (v := .pointer (some ⟨g, 5, none⟩)) rfl (by kernel_rfl) (by kernel_rfl) (by kernel_rfl) (fun _ _ _ h => h.elim) (Or.inl ⟨by rfl, ?y8⟩) hS0.out ?_
  case y8 =>
    intro V hV
    go_simp
  simp only [Act.put, List.setIfInBounds_toArray, List.set_cons_zero, List.set_cons_succ]
  refine wpAnyH_take (i := 11) (oi := { dst := some 76, op := Op.load 3 (Operand.tmp 75), type := 3, pos := "law.go:59", after := #[{ on := 10, ground := Ground.data }], guard := none }) (v := iv k.right) rfl (by kernel_rfl) (by kernel_rfl) (by kernel_rfl) (fun _ _ _ h => h.elim) (Or.inl ⟨by rfl, ?y9⟩) hS0.out ?_
  case y9 =>
    intro V hV
    have hc : V.cell? ⟨g, 5, none⟩ = some (iv k.right) := ((show Below A.heap.size A V from hV).cell (p := ⟨g, 5, none⟩) HA.out.lt).trans (HA.out.cell rfl)
    go_simp
  simp only [Act.put, List.setIfInBounds_toArray, List.set_cons_zero, List.set_cons_succ]
  refine wpAnyH_ready (rs := [2]) (by kernel_rfl) (by simp) (AllReadyH.cons (i := 2) (o := { dst := some 67, op := Op.call { callee := Callee.value (Operand.func 15), args := #[Operand.tmp 65, Operand.tmp 66], argTypes := #[22, 27] }, type := 4, pos := "law.go:59", after := #[{ on := 0, ground := Ground.data }, { on := 1, ground := Ground.data }], guard := none }) rfl ?_ AllReadyH.nil)
  · intro K1 hK1
    rw [if_pos (by rfl)]
    have HC1 := dec_b l am n cm k V0 (HL.out.2.1.below hS0.out) HL.out.2.2 (HK.out.1.below hS0.out) hd.out
    go_wp2_with fail
    refine HC1.mono ?_
    rintro e V1 ⟨rfl, hb1⟩
    dsimp only
    clear HC1
    have hS1 : Hid (Below A.heap.size A V1) := hS0.out.trans (hb1.mono hS0.out.size)
    clear hb1
    refine hK1.out _ _ hS1.out ?_
    clear hK1
    intro _
    try simp only [Act.put, List.setIfInBounds_toArray, List.set_cons_zero, List.set_cons_succ]
    refine wpAnyH_ready (rs := [12]) (by kernel_rfl) (by simp) (AllReadyH.cons (i := 12) (o := { dst := some 77, op := Op.call { callee := Callee.value (Operand.func 16), args := #[Operand.tmp 68, Operand.tmp 70, Operand.tmp 72, Operand.tmp 74, Operand.tmp 76], argTypes := #[22, 25, 9, 9, 3] }, type := 4, pos := "law.go:59", after := #[{ on := 3, ground := Ground.data }, { on := 5, ground := Ground.data }, { on := 7, ground := Ground.data }, { on := 9, ground := Ground.data }, { on := 11, ground := Ground.data }, { on := 2, ground := Ground.chain }], guard := none }) rfl ?_ AllReadyH.nil)
    · intro K1 hK1
      rw [if_pos (by rfl)]
      have HC2 := refDec_b l a n cp k V1 (HL.out.1.below hS1.out) HL.out.2.2 (HK.out.1.below hS1.out) HK.out.2 hd.out
      go_wp2_with fail
      refine HC2.mono ?_
      rintro e V2 ⟨rfl, hb2⟩
      dsimp only
      clear HC2
      have hS2 : Hid (Below A.heap.size A V2) := hS1.out.trans (hb2.mono hS1.out.size)
      clear hb2
      refine hK1.out _ _ hS2.out ?_
      clear hK1
      intro _
      try simp only [Act.put, List.setIfInBounds_toArray, List.set_cons_zero, List.set_cons_succ]
      refine wpAnyH_take (i := 13) (oi := { dst := some 78, op := Op.binOp BinOp.eql 4 (Operand.tmp 67) (Operand.tmp 77) 4, type := 4, pos := "law.go:59", after := #[{ on := 2, ground := Ground.data }, { on := 12, ground := Ground.data }], guard := none }) (v := .bool true) rfl (by kernel_rfl) (by kernel_rfl) (by kernel_rfl) (fun _ _ _ h => h.elim) (Or.inl ⟨by rfl, ?y10⟩) hS2.out ?_
      case y10 =>
        intro V hV
        cases D <;> go_simp
      simp only [Act.put, List.setIfInBounds_toArray, List.set_cons_zero, List.set_cons_succ]
      refine wpAnyH_take (i := 14) (oi := { dst := some 79, op := Op.move (Operand.tmp 78), type := 4, pos := "law.go:59", after := #[{ on := 13, ground := Ground.data }, { on := 12, ground := Ground.chain }], guard := none }) (v := .bool true) rfl (by kernel_rfl) (by kernel_rfl) (by kernel_rfl) (fun _ _ _ h => h.elim) (Or.inl ⟨by rfl, ?y11⟩) hS2.out ?_
      case y11 =>
        intro V hV
        go_simp
      simp only [Act.put, List.setIfInBounds_toArray, List.set_cons_zero, List.set_cons_succ]
      refine wpAnyH_ready (rs := [15]) (by kernel_rfl) (by simp) (AllReadyH.cons (i := 15) (o := { dst := some 80, op := Op.call { callee := Callee.value (Operand.func 10), args := #[], argTypes := #[] }, type := 4, pos := "law.go:59", after := #[{ on := 14, ground := Ground.chain }, { on := 14, ground := Ground.guard }], guard := some (14, true) }) rfl ?_ AllReadyH.nil)
      · intro K1 hK1
        rw [if_pos (by rfl)]
        have HC3 := lives_is V2
        go_wp2_with fail
        refine HC3.mono ?_
        rintro e V3 ⟨rfl, hb3⟩
        dsimp only
        clear HC3
        have hS3 : Hid (Below A.heap.size A V3) := hS2.out.trans (hb3.mono hS2.out.size)
        clear hb3
        refine hK1.out _ _ hS3.out ?_
        clear hK1
        intro _
        try simp only [Act.put, List.setIfInBounds_toArray, List.set_cons_zero, List.set_cons_succ]
        refine wpAnyH_take (i := 16) (oi := { dst := some 81, op := Op.pick (Operand.tmp 79) (Operand.tmp 80) (Operand.const (Value.bool false)), type := 4, pos := "law.go:59", after := #[{ on := 14, ground := Ground.data }, { on := 15, ground := Ground.data }], guard := none }) (v := .bool true) rfl (by kernel_rfl) (by kernel_rfl) (by kernel_rfl) (fun _ _ _ h => h.elim) (Or.inl ⟨by rfl, ?y12⟩) hS3.out ?_
        case y12 =>
          intro V hV
          go_simp
        simp only [Act.put, List.setIfInBounds_toArray, List.set_cons_zero, List.set_cons_succ]
        refine wpAnyH_take (i := 17) (oi := { dst := some 4, op := Op.assign (Operand.tmp 81), type := 4, pos := "law.go:59", after := #[{ on := 16, ground := Ground.data }, { on := 15, ground := Ground.chain }, { on := 0, ground := Ground.phase }, { on := 1, ground := Ground.phase }, { on := 2, ground := Ground.phase }, { on := 3, ground := Ground.phase }, { on := 4, ground := Ground.phase }, { on := 5, ground := Ground.phase }, { on := 6, ground := Ground.phase }, { on := 7, ground := Ground.phase }, { on := 8, ground := Ground.phase }, { on := 9, ground := Ground.phase }, { on := 10, ground := Ground.phase }, { on := 11, ground := Ground.phase }, { on := 12, ground := Ground.phase }, { on := 13, ground := Ground.phase }, { on := 14, ground := Ground.phase }, { on := 15, ground := Ground.phase }, { on := 16, ground := Ground.phase }], guard := none }) (v := .bool true) rfl (by kernel_rfl) (by kernel_rfl) (by kernel_rfl) (fun _ _ _ h => h.elim) (Or.inl ⟨by rfl, ?y13⟩) hS3.out ?_
        case y13 =>
          intro V hV
          go_simp
        simp only [Act.put, List.setIfInBounds_toArray, List.set_cons_zero, List.set_cons_succ]
        refine wpAnyH_done (by kernel_rfl) ?_ _
        exact hQ V3 hS3.out
#print axioms decs_reg13
end Go.Proofs.Ytngkajeghmogmaa.Oct
