/-
  Layer 24 (reply): the example; ReplyPrints.
-/
import Derived.Test.YtkpepfeiimphpaaDoorPrn
namespace Go.Proofs.YtkpepfeiimphpaaDoor.Oct
open Go.RowKit
set_option linter.unusedSimpArgs false
set_option linter.unusedVariables false

theorem dec200 : Lib.decDigits 200 = [50, 48, 48] := by
  rw [dec_big (by decide), show 200 / 10 = 20 from rfl, show 200 % 10 = 0 from rfl, dec_big (u := 20) (by decide), show 20 / 10 = 2 from rfl, show 20 % 10 = 0 from rfl, dec_small (u := 2) (by decide), dec_small (u := 0) (by decide)]
  rfl
theorem dec2 : Lib.decDigits 2 = [50] := by rw [dec_small (by decide)]; rfl
theorem exam : prL 200 (⟨#[116, 101, 120, 116, 47, 112, 108, 97, 105, 110]⟩ : BA) (⟨#[104, 105]⟩ : BA) false = ([72, 84, 84, 80, 47, 49, 46, 49, 32, 50, 48, 48, 32, 79, 75, 13, 10, 99, 111, 110, 116, 101, 110, 116, 45, 116, 121, 112, 101, 58, 32, 116, 101, 120, 116, 47, 112, 108, 97, 105, 110, 13, 10, 99, 111, 110, 116, 101, 110, 116, 45, 108, 101, 110, 103, 116, 104, 58, 32, 50, 13, 10, 13, 10, 104, 105], 0) := by
  unfold prL
  rw [if_neg (by decide), if_neg (by decide)]
  unfold headL
  rw [show (200 : Int).toNat = 200 from rfl, dec200, show ((⟨#[104, 105]⟩ : BA)).size = 2 from rfl, dec2]
  rfl
theorem wpList_runG {ops : Array Oper} {rest : List Oper} {o : Oper} {a : Act} {w : World} {Q : Exit → Act → World → Prop} (hw : Region.wanted o (yielded ops a.tmps) = true) (v : Value) (hrun : ∀ W, (execOp a.eval o).run Tryd.prog W = .ok (.value v) W)
    (hK : wpList Tryd.prog ops Q rest (a.put o.dst v) w) : wpList Tryd.prog ops Q (o :: rest) a w := by
  refine Go.BigFrame.wpList_want hw fun K hK' => ?_
  unfold Oper.wp
  rw [hrun]
  exact hK' _ _ hK
set_option maxRecDepth 100000 in
set_option maxHeartbeats 4000000 in
theorem lives_is (w : World) (hp : PT w) : Calls Tryd.prog 7 #[] w fun e w' => e = .returned (.bool true) ∧ Below w.heap.size w w' := by
  have HP := print_is 200 (⟨#[116, 101, 120, 116, 47, 112, 108, 97, 105, 110]⟩ : BA) (⟨#[104, 105]⟩ : BA) false w hp (by decide) (by decide)
  rw [exam] at HP
  have HPT : Hid (PT w) := hp
  have HRE := fun V => reason_is 404 V
  rw [show reasonS 404 = (⟨#[78, 111, 116, 32, 70, 111, 117, 110, 100]⟩ : BA) from rfl] at HRE
  clear hp
  go_enter Tryd.func7, Tryd.ntmps7
  go_wp2_with fail
  refine HP.mono ?_
  rintro e V ⟨s, rfl, hs, hb⟩
  have HV : Hid (Below w.heap.size w V) := hb
  obtain rfl : s = ⟨#[72, 84, 84, 80, 47, 49, 46, 49, 32, 50, 48, 48, 32, 79, 75, 13, 10, 99, 111, 110, 116, 101, 110, 116, 45, 116, 121, 112, 101, 58, 32, 116, 101, 120, 116, 47, 112, 108, 97, 105, 110, 13, 10, 99, 111, 110, 116, 101, 110, 116, 45, 108, 101, 110, 103, 116, 104, 58, 32, 50, 13, 10, 13, 10, 104, 105]⟩ := ba_ext hs.out
  clear HP hs hb
  go_wp2_with (with_reducible change wpList _ _ _ ({ dst := some 12, op := _, type := _, pos := _, after := _, guard := _ } :: _) _ _; refine Hid.out ?_)
  show wpList _ _ _ _ _ _
  refine wpList_runG rfl (.bool true) (by intro W; kernel_rfl) ?_
  simp only [Act.put, List.setIfInBounds_toArray, List.set_cons_zero, List.set_cons_succ]
  have HC := HRE V
  go_wp2_with fail
  refine HC.mono ?_
  rintro e V2 ⟨rfl, hb2⟩
  have HV2 : Hid (Below w.heap.size w V2) := below_tr HV.out hb2
  clear HC hb2 HRE
  go_wp2
  go_ret
  exact ⟨rfl, HV2.out⟩
#print axioms lives_is
set_option maxRecDepth 100000 in
set_option maxHeartbeats 4000000 in
theorem law5 {Q : Exit → Act → World → Prop} {x0 x2 x7 x8 x9 x10 x11 x12 x13 x14 x15 x16 x17 x18 x19 x20 x21 x22 x23 x24 x25 x26 x27 x28 x29 x30 x31 x32 x33 x34 x35 x36 x37 x38 x39 x40 x41 x42 x43 x44 x45 x46 x47 : Value} {ds : List Deferred} {A : World} {b : Nat} {st k : Int} {s rs : BA}
    (HL : Hid (b < A.heap.size)) (c0 : A.cell? ⟨b, 0, none⟩ = some (iv st)) (HRE : Hid (∀ V, Below A.heap.size A V → Calls Tryd.prog 10 #[iv st] V fun e V2 => e = .returned (.string rs) ∧ Below V.heap.size V V2)) (HRR : Hid (∀ V, Below A.heap.size A V → Calls Tryd.prog 11 #[iv st] V fun e V2 => e = .returned (.string rs) ∧ Below V.heap.size V V2)) (HLV : Hid (∀ V, Below A.heap.size A V → Calls Tryd.prog 7 #[] V fun e V2 => e = .returned (.bool true) ∧ Below V.heap.size V V2))
    (hQ : ∀ V1, Below A.heap.size A V1 → Q .normal { tmps := #[x0, .pointer (some ⟨b, 0, none⟩), .bool true, .string s, iv k, .string s, iv k, x7, x8, x9, x10, x11, x12, x13, x14, x15, x16, x17, x18, x19, x20, x21, x22, x23, x24, x25, x26, x27, .string s, .string s, .bool true, .bool true, iv k, iv k, .bool true, .bool true, .bool true, .pointer (some ⟨b, 0, none⟩), iv st, .string rs, .pointer (some ⟨b, 0, none⟩), iv st, .string rs, .bool true, .bool true, .bool true, .bool true, .bool true], defers := ds } V1) :
    (Code.region 5 #[{ dst := some 28, op := Op.move (Operand.tmp 3), type := 9, pos := "law.go:23", after := #[], guard := none }, { dst := some 29, op := Op.move (Operand.tmp 5), type := 9, pos := "law.go:23", after := #[], guard := none }, { dst := some 30, op := Op.binOp BinOp.eql 9 (Operand.tmp 28) (Operand.tmp 29) 9, type := 4, pos := "law.go:23", after := #[{ on := 0, ground := Ground.data }, { on := 1, ground := Ground.data }], guard := none }, { dst := some 31, op := Op.move (Operand.tmp 30), type := 4, pos := "law.go:23", after := #[{ on := 2, ground := Ground.data }], guard := none }, { dst := some 32, op := Op.move (Operand.tmp 4), type := 25, pos := "law.go:23", after := #[{ on := 3, ground := Ground.guard }], guard := some (3, true) }, { dst := some 33, op := Op.move (Operand.tmp 6), type := 3, pos := "law.go:23", after := #[{ on := 3, ground := Ground.guard }], guard := some (3, true) }, { dst := some 34, op := Op.binOp BinOp.eql 3 (Operand.tmp 32) (Operand.tmp 33) 3, type := 4, pos := "law.go:23", after := #[{ on := 4, ground := Ground.data }, { on := 5, ground := Ground.data }, { on := 3, ground := Ground.guard }], guard := some (3, true) }, { dst := some 35, op := Op.pick (Operand.tmp 31) (Operand.tmp 34) (Operand.const (Value.bool false)), type := 4, pos := "law.go:23", after := #[{ on := 3, ground := Ground.data }, { on := 6, ground := Ground.data }], guard := none }, { dst := some 36, op := Op.move (Operand.tmp 35), type := 4, pos := "law.go:23", after := #[{ on := 7, ground := Ground.data }, { on := 3, ground := Ground.chain }], guard := none }, { dst := some 37, op := Op.fieldAddr 23 (Operand.tmp 1) 0, type := 0, pos := "law.go:23", after := #[{ on := 8, ground := Ground.guard }], guard := some (8, true) }, { dst := some 38, op := Op.load 3 (Operand.tmp 37), type := 3, pos := "law.go:23", after := #[{ on := 9, ground := Ground.data }, { on := 8, ground := Ground.guard }], guard := some (8, true) }, { dst := some 39, op := Op.call { callee := Callee.value (Operand.func 10), args := #[Operand.tmp 38], argTypes := #[3] }, type := 9, pos := "law.go:23", after := #[{ on := 10, ground := Ground.data }, { on := 8, ground := Ground.chain }, { on := 8, ground := Ground.guard }], guard := some (8, true) }, { dst := some 40, op := Op.fieldAddr 23 (Operand.tmp 1) 0, type := 0, pos := "law.go:23", after := #[{ on := 8, ground := Ground.guard }], guard := some (8, true) }, { dst := some 41, op := Op.load 3 (Operand.tmp 40), type := 3, pos := "law.go:23", after := #[{ on := 12, ground := Ground.data }, { on := 8, ground := Ground.guard }], guard := some (8, true) }, { dst := some 42, op := Op.call { callee := Callee.value (Operand.func 11), args := #[Operand.tmp 41], argTypes := #[3] }, type := 9, pos := "law.go:23", after := #[{ on := 13, ground := Ground.data }, { on := 11, ground := Ground.chain }, { on := 8, ground := Ground.guard }], guard := some (8, true) }, { dst := some 43, op := Op.binOp BinOp.eql 9 (Operand.tmp 39) (Operand.tmp 42) 9, type := 4, pos := "law.go:23", after := #[{ on := 11, ground := Ground.data }, { on := 14, ground := Ground.data }, { on := 8, ground := Ground.guard }], guard := some (8, true) }, { dst := some 44, op := Op.pick (Operand.tmp 36) (Operand.tmp 43) (Operand.const (Value.bool false)), type := 4, pos := "law.go:23", after := #[{ on := 8, ground := Ground.data }, { on := 15, ground := Ground.data }], guard := none }, { dst := some 45, op := Op.move (Operand.tmp 44), type := 4, pos := "law.go:23", after := #[{ on := 16, ground := Ground.data }, { on := 14, ground := Ground.chain }], guard := none }, { dst := some 46, op := Op.call { callee := Callee.value (Operand.func 7), args := #[], argTypes := #[] }, type := 4, pos := "law.go:23", after := #[{ on := 17, ground := Ground.chain }, { on := 17, ground := Ground.guard }], guard := some (17, true) }, { dst := some 47, op := Op.pick (Operand.tmp 45) (Operand.tmp 46) (Operand.const (Value.bool false)), type := 4, pos := "law.go:23", after := #[{ on := 17, ground := Ground.data }, { on := 18, ground := Ground.data }], guard := none }, { dst := some 2, op := Op.assign (Operand.tmp 47), type := 4, pos := "law.go:23", after := #[{ on := 19, ground := Ground.data }, { on := 18, ground := Ground.chain }, { on := 0, ground := Ground.phase }, { on := 1, ground := Ground.phase }, { on := 2, ground := Ground.phase }, { on := 3, ground := Ground.phase }, { on := 4, ground := Ground.phase }, { on := 5, ground := Ground.phase }, { on := 6, ground := Ground.phase }, { on := 7, ground := Ground.phase }, { on := 8, ground := Ground.phase }, { on := 9, ground := Ground.phase }, { on := 10, ground := Ground.phase }, { on := 11, ground := Ground.phase }, { on := 12, ground := Ground.phase }, { on := 13, ground := Ground.phase }, { on := 14, ground := Ground.phase }, { on := 15, ground := Ground.phase }, { on := 16, ground := Ground.phase }, { on := 17, ground := Ground.phase }, { on := 18, ground := Ground.phase }, { on := 19, ground := Ground.phase }], guard := none }] true).wp Tryd.prog Q { tmps := #[x0, .pointer (some ⟨b, 0, none⟩), x2, .string s, iv k, .string s, iv k, x7, x8, x9, x10, x11, x12, x13, x14, x15, x16, x17, x18, x19, x20, x21, x22, x23, x24, x25, x26, x27, x28, x29, x30, x31, x32, x33, x34, x35, x36, x37, x38, x39, x40, x41, x42, x43, x44, x45, x46, x47], defers := ds } A := by
  refine Code.wp_mono (Q := fun x a' w' => match x with | .normal => Q .normal a' w' | _ => False) (by intro x a' w' h; cases x <;> first | exact h | exact h.elim) ?_
  refine wp_region_held (S := fun V => Below A.heap.size A V) (by kernel_rfl) ?_
  have hS0 : Hid (Below A.heap.size A A.drew) := below_drew0 A
  change wpAnyH Tryd.prog .any _ _ (fun V => Below A.heap.size A V) 21 (Array.replicate 21 false) _ A.drew
  obtain ⟨V0, hV0⟩ : ∃ V0, A.drew = V0 := ⟨_, rfl⟩
  rw [hV0]
  rw [hV0] at hS0
  clear hV0
  refine wpAnyH_take (i := 0) (oi := { dst := some 28, op := Op.move (Operand.tmp 3), type := 9, pos := "law.go:23", after := #[], guard := none }) (v := .string s) rfl (by kernel_rfl) (by kernel_rfl) (by kernel_rfl) (fun _ _ _ h => h.elim) (Or.inl ⟨by rfl, ?y1⟩) hS0.out ?_
  case y1 =>
    intro V hV
    go_simp
  simp only [Act.put, List.setIfInBounds_toArray, List.set_cons_zero, List.set_cons_succ]
  refine wpAnyH_take (i := 1) (oi := { dst := some 29, op := Op.move (Operand.tmp 5), type := 9, pos := "law.go:23", after := #[], guard := none }) (v := .string s) rfl (by kernel_rfl) (by kernel_rfl) (by kernel_rfl) (fun _ _ _ h => h.elim) (Or.inl ⟨by rfl, ?y2⟩) hS0.out ?_
  case y2 =>
    intro V hV
    go_simp
  simp only [Act.put, List.setIfInBounds_toArray, List.set_cons_zero, List.set_cons_succ]
  refine wpAnyH_take (i := 2) (oi := { dst := some 30, op := Op.binOp BinOp.eql 9 (Operand.tmp 28) (Operand.tmp 29) 9, type := 4, pos := "law.go:23", after := #[{ on := 0, ground := Ground.data }, { on := 1, ground := Ground.data }], guard := none }) (v := .bool true) rfl (by kernel_rfl) (by kernel_rfl) (by kernel_rfl) (fun _ _ _ h => h.elim) (Or.inl ⟨by rfl, ?y3⟩) hS0.out ?_
  case y3 =>
    intro V hV
    have hcmp : (s.toList == s.toList) = true := by simp
    go_simp
  simp only [Act.put, List.setIfInBounds_toArray, List.set_cons_zero, List.set_cons_succ]
  refine wpAnyH_take (i := 3) (oi := { dst := some 31, op := Op.move (Operand.tmp 30), type := 4, pos := "law.go:23", after := #[{ on := 2, ground := Ground.data }], guard := none }) (v := .bool true) rfl (by kernel_rfl) (by kernel_rfl) (by kernel_rfl) (fun _ _ _ h => h.elim) (Or.inl ⟨by rfl, ?y4⟩) hS0.out ?_
  case y4 =>
    intro V hV
    go_simp
  simp only [Act.put, List.setIfInBounds_toArray, List.set_cons_zero, List.set_cons_succ]
  refine wpAnyH_take (i := 4) (oi := { dst := some 32, op := Op.move (Operand.tmp 4), type := 25, pos := "law.go:23", after := #[{ on := 3, ground := Ground.guard }], guard := some (3, true) }) (v := iv k) rfl (by kernel_rfl) (by kernel_rfl) (by kernel_rfl) (fun _ _ _ h => h.elim) (Or.inl ⟨by rfl, ?y5⟩) hS0.out ?_
  case y5 =>
    intro V hV
    go_simp
  simp only [Act.put, List.setIfInBounds_toArray, List.set_cons_zero, List.set_cons_succ]
  refine wpAnyH_take (i := 5) (oi := { dst := some 33, op := Op.move (Operand.tmp 6), type := 3, pos := "law.go:23", after := #[{ on := 3, ground := Ground.guard }], guard := some (3, true) }) (v := iv k) rfl (by kernel_rfl) (by kernel_rfl) (by kernel_rfl) (fun _ _ _ h => h.elim) (Or.inl ⟨by rfl, ?y6⟩) hS0.out ?_
  case y6 =>
    intro V hV
    go_simp
  simp only [Act.put, List.setIfInBounds_toArray, List.set_cons_zero, List.set_cons_succ]
  refine wpAnyH_take (i := 6) (oi := { dst := some 34, op := Op.binOp BinOp.eql 3 (Operand.tmp 32) (Operand.tmp 33) 3, type := 4, pos := "law.go:23", after := #[{ on := 4, ground := Ground.data }, { on := 5, ground := Ground.data }, { on := 3, ground := Ground.guard }], guard := some (3, true) }) (v := .bool true) rfl (by kernel_rfl) (by kernel_rfl) (by kernel_rfl) (fun _ _ _ h => h.elim) (Or.inl ⟨by rfl, ?y7⟩) hS0.out ?_
  case y7 =>
    intro V hV
    have hcmp : (k == k) = true := by simp
    go_simp
  simp only [Act.put, List.setIfInBounds_toArray, List.set_cons_zero, List.set_cons_succ]
  refine wpAnyH_take (i := 7) (oi := { dst := some 35, op := Op.pick (Operand.tmp 31) (Operand.tmp 34) (Operand.const (Value.bool false)), type := 4, pos := "law.go:23", after := #[{ on := 3, ground := Ground.data }, { on := 6, ground := Ground.data }], guard := none }) (v := .bool true) rfl (by kernel_rfl) (by kernel_rfl) (by kernel_rfl) (fun _ _ _ h => h.elim) (Or.inl ⟨by rfl, ?y8⟩) hS0.out ?_
  case y8 =>
    intro V hV
    go_simp
  simp only [Act.put, List.setIfInBounds_toArray, List.set_cons_zero, List.set_cons_succ]
  refine wpAnyH_take (i := 8) (oi := { dst := some 36, op := Op.move (Operand.tmp 35), type := 4, pos := "law.go:23", after := #[{ on := 7, ground := Ground.data }, { on := 3, ground := Ground.chain }], guard := none }) (v := .bool true) rfl (by kernel_rfl) (by kernel_rfl) (by kernel_rfl) (fun _ _ _ h => h.elim) (Or.inl ⟨by rfl, ?y9⟩) hS0.out ?_
  case y9 =>
    intro V hV
    go_simp
  simp only [Act.put, List.setIfInBounds_toArray, List.set_cons_zero, List.set_cons_succ]
  refine wpAnyH_take (i := 9) (oi := { dst := some 37, op := Op.fieldAddr 23 (Operand.tmp 1) 0, type := 0, pos := "law.go:23", after := #[{ on := 8, ground := Ground.guard }], guard := some (8, true) }) (v := .pointer (some ⟨b, 0, none⟩)) rfl (by kernel_rfl) (by kernel_rfl) (by kernel_rfl) (fun _ _ _ h => h.elim) (Or.inl ⟨by rfl, ?y10⟩) hS0.out ?_
  case y10 =>
    intro V hV
    go_simp
  simp only [Act.put, List.setIfInBounds_toArray, List.set_cons_zero, List.set_cons_succ]
  refine wpAnyH_take (i := 10) (oi := { dst := some 38, op := Op.load 3 (Operand.tmp 37), type := 3, pos := "law.go:23", after := #[{ on := 9, ground := Ground.data }, { on := 8, ground := Ground.guard }], guard := some (8, true) }) (v := iv st) rfl (by kernel_rfl) (by kernel_rfl) (by kernel_rfl) (fun _ _ _ h => h.elim) (Or.inl ⟨by rfl, ?y11⟩) hS0.out ?_
  case y11 =>
    intro V hV
    have hc : V.cell? ⟨b, 0, none⟩ = some (iv st) := ((show Below A.heap.size A V from hV).cell (p := ⟨b, 0, none⟩) HL.out).trans c0
    go_simp
  simp only [Act.put, List.setIfInBounds_toArray, List.set_cons_zero, List.set_cons_succ]
  refine wpAnyH_take (i := 12) (oi := { dst := some 40, op := Op.fieldAddr 23 (Operand.tmp 1) 0, type := 0, pos := "law.go:23", after := #[{ on := 8, ground := Ground.guard }], guard := some (8, true) }) (v := .pointer (some ⟨b, 0, none⟩)) rfl (by kernel_rfl) (by kernel_rfl) (by kernel_rfl) (fun _ _ _ h => h.elim) (Or.inl ⟨by rfl, ?y12⟩) hS0.out ?_
  case y12 =>
    intro V hV
    go_simp
  simp only [Act.put, List.setIfInBounds_toArray, List.set_cons_zero, List.set_cons_succ]
  refine wpAnyH_take (i := 13) (oi := { dst := some 41, op := Op.load 3 (Operand.tmp 40), type := 3, pos := "law.go:23", after := #[{ on := 12, ground := Ground.data }, { on := 8, ground := Ground.guard }], guard := some (8, true) }) (v := iv st) rfl (by kernel_rfl) (by kernel_rfl) (by kernel_rfl) (fun _ _ _ h => h.elim) (Or.inl ⟨by rfl, ?y13⟩) hS0.out ?_
  case y13 =>
    intro V hV
    have hc : V.cell? ⟨b, 0, none⟩ = some (iv st) := ((show Below A.heap.size A V from hV).cell (p := ⟨b, 0, none⟩) HL.out).trans c0
    go_simp
  simp only [Act.put, List.setIfInBounds_toArray, List.set_cons_zero, List.set_cons_succ]
  refine wpAnyH_ready (rs := [11]) (by kernel_rfl) (by simp) (AllReadyH.cons (i := 11) (o := { dst := some 39, op := Op.call { callee := Callee.value (Operand.func 10), args := #[Operand.tmp 38], argTypes := #[3] }, type := 9, pos := "law.go:23", after := #[{ on := 10, ground := Ground.data }, { on := 8, ground := Ground.chain }, { on := 8, ground := Ground.guard }], guard := some (8, true) }) rfl ?_ AllReadyH.nil)
  · intro K1 hK1
    rw [if_pos (by rfl)]
    have HC1 := HRE.out V0 hS0.out
    go_wp2_with fail
    refine HC1.mono ?_
    rintro e V1 ⟨rfl, hb1⟩
    dsimp only
    clear HC1
    have hS1 : Hid (Below A.heap.size A V1) := hS0.out.trans (hb1.mono hS0.out.size)
    clear hb1
    refine hK1.out _ _ hS1.out ?_
    clear hK1
    intro _
    try simp only [Act.put, List.setIfInBounds_toArray, List.set_cons_zero, List.set_cons_succ]
    refine wpAnyH_ready (rs := [14]) (by kernel_rfl) (by simp) (AllReadyH.cons (i := 14) (o := { dst := some 42, op := Op.call { callee := Callee.value (Operand.func 11), args := #[Operand.tmp 41], argTypes := #[3] }, type := 9, pos := "law.go:23", after := #[{ on := 13, ground := Ground.data }, { on := 11, ground := Ground.chain }, { on := 8, ground := Ground.guard }], guard := some (8, true) }) rfl ?_ AllReadyH.nil)
    · intro K1 hK1
      rw [if_pos (by rfl)]
      have HC2 := HRR.out V1 hS1.out
      go_wp2_with fail
      refine HC2.mono ?_
      rintro e V2 ⟨rfl, hb2⟩
      dsimp only
      clear HC2
      have hS2 : Hid (Below A.heap.size A V2) := hS1.out.trans (hb2.mono hS1.out.size)
      clear hb2
      refine hK1.out _ _ hS2.out ?_
      clear hK1
      intro _
      try simp only [Act.put, List.setIfInBounds_toArray, List.set_cons_zero, List.set_cons_succ]
      refine wpAnyH_take (i := 15) (oi := { dst := some 43, op := Op.binOp BinOp.eql 9 (Operand.tmp 39) (Operand.tmp 42) 9, type := 4, pos := "law.go:23", after := #[{ on := 11, ground := Ground.data }, { on := 14, ground := Ground.data }, { on := 8, ground := Ground.guard }], guard := some (8, true) }) (v := .bool true) rfl (by kernel_rfl) (by kernel_rfl) (by kernel_rfl) (fun _ _ _ h => h.elim) (Or.inl ⟨by rfl, ?y14⟩) hS2.out ?_
      case y14 =>
        intro V hV
        have hcmp : (rs.toList == rs.toList) = true := by simp
        go_simp
      simp only [Act.put, List.setIfInBounds_toArray, List.set_cons_zero, List.set_cons_succ]
      refine wpAnyH_take (i := 16) (oi := { dst := some 44, op := Op.pick (Operand.tmp 36) (Operand.tmp 43) (Operand.const (Value.bool false)), type := 4, pos := "law.go:23", after := #[{ on := 8, ground := Ground.data }, { on := 15, ground := Ground.data }], guard := none }) (v := .bool true) rfl (by kernel_rfl) (by kernel_rfl) (by kernel_rfl) (fun _ _ _ h => h.elim) (Or.inl ⟨by rfl, ?y15⟩) hS2.out ?_
      case y15 =>
        intro V hV
        go_simp
      simp only [Act.put, List.setIfInBounds_toArray, List.set_cons_zero, List.set_cons_succ]
      refine wpAnyH_take (i := 17) (oi := { dst := some 45, op := Op.move (Operand.tmp 44), type := 4, pos := "law.go:23", after := #[{ on := 16, ground := Ground.data }, { on := 14, ground := Ground.chain }], guard := none }) (v := .bool true) rfl (by kernel_rfl) (by kernel_rfl) (by kernel_rfl) (fun _ _ _ h => h.elim) (Or.inl ⟨by rfl, ?y16⟩) hS2.out ?_
      case y16 =>
        intro V hV
        go_simp
      simp only [Act.put, List.setIfInBounds_toArray, List.set_cons_zero, List.set_cons_succ]
      refine wpAnyH_ready (rs := [18]) (by kernel_rfl) (by simp) (AllReadyH.cons (i := 18) (o := { dst := some 46, op := Op.call { callee := Callee.value (Operand.func 7), args := #[], argTypes := #[] }, type := 4, pos := "law.go:23", after := #[{ on := 17, ground := Ground.chain }, { on := 17, ground := Ground.guard }], guard := some (17, true) }) rfl ?_ AllReadyH.nil)
      · intro K1 hK1
        rw [if_pos (by rfl)]
        have HC3 := HLV.out V2 hS2.out
        go_wp2_with fail
        refine HC3.mono ?_
        rintro e V3 ⟨rfl, hb3⟩
        dsimp only
        clear HC3
        have hS3 : Hid (Below A.heap.size A V3) := hS2.out.trans (hb3.mono hS2.out.size)
        clear hb3
        refine hK1.out _ _ hS3.out ?_
        clear hK1
        intro _
        try simp only [Act.put, List.setIfInBounds_toArray, List.set_cons_zero, List.set_cons_succ]
        refine wpAnyH_take (i := 19) (oi := { dst := some 47, op := Op.pick (Operand.tmp 45) (Operand.tmp 46) (Operand.const (Value.bool false)), type := 4, pos := "law.go:23", after := #[{ on := 17, ground := Ground.data }, { on := 18, ground := Ground.data }], guard := none }) (v := .bool true) rfl (by kernel_rfl) (by kernel_rfl) (by kernel_rfl) (fun _ _ _ h => h.elim) (Or.inl ⟨by rfl, ?y17⟩) hS3.out ?_
        case y17 =>
          intro V hV
          go_simp
        simp only [Act.put, List.setIfInBounds_toArray, List.set_cons_zero, List.set_cons_succ]
        refine wpAnyH_take (i := 20) (oi := { dst := some 2, op := Op.assign (Operand.tmp 47), type := 4, pos := "law.go:23", after := #[{ on := 19, ground := Ground.data }, { on := 18, ground := Ground.chain }, { on := 0, ground := Ground.phase }, { on := 1, ground := Ground.phase }, { on := 2, ground := Ground.phase }, { on := 3, ground := Ground.phase }, { on := 4, ground := Ground.phase }, { on := 5, ground := Ground.phase }, { on := 6, ground := Ground.phase }, { on := 7, ground := Ground.phase }, { on := 8, ground := Ground.phase }, { on := 9, ground := Ground.phase }, { on := 10, ground := Ground.phase }, { on := 11, ground := Ground.phase }, { on := 12, ground := Ground.phase }, { on := 13, ground := Ground.phase }, { on := 14, ground := Ground.phase }, { on := 15, ground := Ground.phase }, { on := 16, ground := Ground.phase }, { on := 17, ground := Ground.phase }, { on := 18, ground := Ground.phase }, { on := 19, ground := Ground.phase }], guard := none }) (v := .bool true) rfl (by kernel_rfl) (by kernel_rfl) (by kernel_rfl) (fun _ _ _ h => h.elim) (Or.inl ⟨by rfl, ?y18⟩) hS3.out ?_
        case y18 =>
          intro V hV
          go_simp
        simp only [Act.put, List.setIfInBounds_toArray, List.set_cons_zero, List.set_cons_succ]
        refine wpAnyH_done (by kernel_rfl) ?_ _
        exact hQ V3 hS3.out
#print axioms law5
set_option maxRecDepth 100000 in
set_option maxHeartbeats 4000000 in
theorem prints_law (st : Int) (ty bo : BA) (cl : Bool) (w : World) (hp : PT w) (hty : ty.size ≤ 140737488355328) (hbo : bo.size ≤ 140737488355328) : Calls Tryd.prog 3 #[.agg #[iv st, .string ty, .string bo, .bool cl]] w fun e w' => e = .returned (.bool true) ∧ Below w.heap.size w w' := by
  obtain ⟨b, hb⟩ : ∃ b, w.heap.size = b := ⟨_, rfl⟩
  obtain ⟨A, hA⟩ : ∃ A, w.alloc (.cells #[iv st, .string ty, .string bo, .bool cl] 23) = A := ⟨_, rfl⟩
  have hB : Below w.heap.size w A := by rw [← hA]; exact below_al _ _
  have h2 : Blk A b 23 [iv st, .string ty, .string bo, .bool cl] := by rw [← hA, ← hb]; exact Blk.new w _ _
  have HA : Hid (Below w.heap.size w A ∧ Blk A b 23 [iv st, .string ty, .string bo, .bool cl] ∧ PT A) := ⟨hB, h2, hp.below hB⟩
  have c1 : A.cell? ⟨b, 1, none⟩ = some (.string ty) := h2.cell rfl
  have c2 : A.cell? ⟨b, 2, none⟩ = some (.string bo) := h2.cell rfl
  obtain ⟨n, hn⟩ : ∃ n, bo.size = n := ⟨_, rfl⟩
  obtain ⟨m, hm⟩ : ∃ n, ty.size = n := ⟨_, rfl⟩
  have HNM : Hid (bo.size = n ∧ ty.size = m) := ⟨hn, hm⟩
  have qn : (n : Int) ≤ 140737488355328 := by omega
  have qm : (m : Int) ≤ 140737488355328 := by omega
  clear hp hty hbo hB h2
  have BIG : (70000 : Int) < (n : Int) ∨ (70000 : Int) < (m : Int) → Calls Tryd.prog 3 #[.agg #[iv st, .string ty, .string bo, .bool cl]] w fun e w' => e = .returned (.bool true) ∧ Below w.heap.size w w' := by
    intro hbig
    have HLV := lives_is A HA.out.2.2
    by_cases h1 : (70000 : Int) < (n : Int)
    · clear hbig
      go_enter Tryd.func3, Tryd.ntmps3
      go_wp2_with fail
      refine HLV.mono ?_
      rintro e V ⟨rfl, hbV⟩
      have HV : Hid (Below w.heap.size w V) := below_tr HA.out.1 hbV
      clear HLV hbV hA hb
      go_wp2
      go_ret
      exact ⟨rfl, HV.out⟩
    · have h2 : (70000 : Int) < (m : Int) := hbig.resolve_left h1
      have q1 : (n : Int) ≤ 70000 := by omega
      clear hbig h1
      go_enter Tryd.func3, Tryd.ntmps3
      go_wp2_with fail
      refine HLV.mono ?_
      rintro e V ⟨rfl, hbV⟩
      have HV : Hid (Below w.heap.size w V) := below_tr HA.out.1 hbV
      clear HLV hbV hA hb
      go_wp2
      go_ret
      exact ⟨rfl, HV.out⟩
  by_cases h1 : (70000 : Int) < (n : Int)
  · exact BIG (.inl h1)
  · by_cases h2 : (70000 : Int) < (m : Int)
    · exact BIG (.inr h2)
    · clear BIG
      have q1 : (n : Int) ≤ 70000 := by omega
      have q2 : (m : Int) ≤ 70000 := by omega
      have HS : Hid (ty.size ≤ 70000 ∧ bo.size ≤ 70000) := ⟨by rw [hm]; omega, by rw [hn]; omega⟩
      have HP := print_is st ty bo cl A HA.out.2.2 HS.out.1 HS.out.2
      clear h1 h2
      go_enter Tryd.func3, Tryd.ntmps3
      go_wp2_with (with_reducible change wpList _ _ _ ({ dst := some 19, op := _, type := _, pos := _, after := _, guard := _ } :: _) _ _; refine Hid.out ?_)
      show wpList _ _ _ _ _ _
      refine wpList_load_row rfl 23 (.tmp 1) rfl b rfl 23 #[iv st, .string ty, .string bo, .bool cl] (0, 0) _ HA.out.2.1 Tryd.underlying23 rfl size23 ?_
      simp only [Act.put, List.setIfInBounds_toArray, List.set_cons_zero, List.set_cons_succ]
      go_wp2_with fail
      refine HP.mono ?_
      rintro e V ⟨s, rfl, hs, hbV⟩
      have HV : Hid (Below w.heap.size w V ∧ Blk V b 23 [iv st, .string ty, .string bo, .bool cl] ∧ PT V ∧ s.data.toList = (prL st ty bo cl).1) := ⟨below_tr HA.out.1 hbV, HA.out.2.1.below hbV HA.out.2.1.lt, HA.out.2.2.below hbV, hs.out⟩
      have HR := rprint_is st ty bo cl V HV.out.2.2.1 HS.out.1 HS.out.2
      clear HP hs hbV hA hb c1 c2
      go_wp2_with (with_reducible change wpList _ _ _ ({ dst := some 24, op := _, type := _, pos := _, after := _, guard := _ } :: _) _ _; refine Hid.out ?_)
      show wpList _ _ _ _ _ _
      refine wpList_load_row rfl 23 (.tmp 1) rfl b rfl 23 #[iv st, .string ty, .string bo, .bool cl] (0, 0) _ HV.out.2.1 Tryd.underlying23 rfl size23 ?_
      simp only [Act.put, List.setIfInBounds_toArray, List.set_cons_zero, List.set_cons_succ]
      go_wp2_with fail
      refine HR.mono ?_
      rintro e V2 ⟨t, rfl, ht, hb2⟩
      obtain rfl : t = s := ba_ext (by rw [ht.out, HV.out.2.2.2])
      have HV2 : Hid (Below w.heap.size w V2 ∧ Blk V2 b 23 [iv st, .string ty, .string bo, .bool cl] ∧ PT V2) := ⟨below_tr HV.out.1 hb2, HV.out.2.1.below hb2 HV.out.2.1.lt, HV.out.2.2.1.below hb2⟩
      obtain ⟨k, hk⟩ : ∃ k, (prL st ty bo cl).2 = k := ⟨_, rfl⟩
      rw [hk]
      have HL : Hid (b < V2.heap.size) := HV2.out.2.1.lt
      have c0 : V2.cell? ⟨b, 0, none⟩ = some (iv st) := HV2.out.2.1.cell rfl
      have HRE : Hid (∀ V, Below V2.heap.size V2 V → Calls Tryd.prog 10 #[iv st] V fun e V2 => e = .returned (.string (reasonS st)) ∧ Below V.heap.size V V2) := fun V _ => reason_is st V
      have HRR : Hid (∀ V, Below V2.heap.size V2 V → Calls Tryd.prog 11 #[iv st] V fun e V2 => e = .returned (.string (reasonS st)) ∧ Below V.heap.size V V2) := fun V _ => (rreason_is st V).mono (by rintro e W ⟨rfl, rfl⟩; exact ⟨rfl, Below.refl _ _⟩)
      have HLV : Hid (∀ V, Below V2.heap.size V2 V → Calls Tryd.prog 7 #[] V fun e V2 => e = .returned (.bool true) ∧ Below V.heap.size V V2) := fun V hV => lives_is V (HV2.out.2.2.below hV)
      clear HR ht hb2 hk
      go_wp2_with fail
      refine law5 HL c0 HRE HRR HLV ?_
      intro V3 hb3
      have HE : Hid (Below w.heap.size w V3) := below_tr HV2.out.1 hb3
      clear hb3 HL c0 HRE HRR HLV
      go_wp2
      go_ret
      exact ⟨rfl, HE.out⟩
#print axioms prints_law
end Go.Proofs.YtkpepfeiimphpaaDoor.Oct
