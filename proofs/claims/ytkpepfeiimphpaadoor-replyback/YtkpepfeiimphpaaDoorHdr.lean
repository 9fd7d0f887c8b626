/-
  Layer 24 (reply): the heads of both: their drawn regions.
-/
import Derived.Test.YtkpepfeiimphpaaDoorRsn
import Derived.Lib.AppendIntMem
import Derived.Deep.RegionHeld
import Derived.Deep.MidRow
namespace Go.Proofs.YtkpepfeiimphpaaDoor.Oct
open Go.RowKit
set_option linter.unusedSimpArgs false
set_option linter.unusedVariables false

def PT (w : World) : Prop := Lib.TabIs Tryd.prog w "internal/strconv.uint64pow10" .u64 Lib.pow10Tab
theorem PT.below {w w' : World} (h : PT w) (hb : Below w.heap.size w w') : PT w' := Lib.tabBelow_of_tabIs h w' hb
theorem below_grow (w : World) (k : Nat) (os : Array Obj) : Below w.heap.size w (Sort.grow (w.drewN k) os) := by
  refine ⟨rfl, rfl, rfl, ?_, fun j hj => ?_⟩
  · rw [Sort.size_grow]; exact Nat.le_add_right _ _
  · show (w.heap ++ os)[j]? = w.heap[j]?
    rw [Array.getElem?_append_left hj]
theorem itoa_b (n : Nat) (hn : n ≤ 1000000) (w : World) (h : PT w) (s : BA) (hs : s = ⟨(Lib.decDigits n).toArray⟩) : Calls Tryd.prog 24 #[iv (n : Int)] w fun e w' => e = .returned (.string s) ∧ Below w.heap.size w w' := by
  subst hs
  refine (itoa_is (n : Int) (by omega) (by omega) w h).mono ?_
  rintro e w' ⟨rfl, k, os, rfl⟩
  refine ⟨?_, below_grow w k os⟩
  unfold Lib.itoa
  rw [if_neg (by omega)]
  rfl
theorem below_drew0 (w : World) : Below w.heap.size w w.drew := ⟨rfl, rfl, rfl, Nat.le_refl _, fun _ _ => rfl⟩
theorem yl_cat {o : Oper} {a : Act} (V : World) (x y : Operand) (s t : BA) (hop : o.op = .binOp .add 9 x y 9) (hx : a.eval x = .string s) (hy : a.eval y = .string t) (hs : s.size ≤ 100000) (ht : t.size ≤ 100000) : (execOp a.eval o).run Tryd.prog V = .ok (.value (.string (s ++ t))) V := by
  unfold execOp
  simp only [hop, hx, hy]
  go_simp
  omega
theorem sz_app {s t : BA} {k m : Nat} (h1 : s.size ≤ k) (h2 : t.size ≤ m) : (s ++ t).size ≤ k + m := by rw [ByteArray.size_append]; omega
set_option maxRecDepth 100000 in
set_option maxHeartbeats 4000000 in
theorem hd1 {Q : Exit → Act → World → Prop} {x0 x2 x3 x4 x5 x6 x7 x8 x9 x10 x11 x12 x13 x14 x15 x16 x17 x18 x19 x20 x21 x22 x23 x24 x25 x26 x27 x28 x29 x30 x31 x32 x33 x34 x35 x36 : Value} {ds : List Deferred} {A : World} {b st : Nat} {d1 rs : BA}
    (HL : Hid (b < A.heap.size)) (c0 : A.cell? ⟨b, 0, none⟩ = some (iv (st : Int))) (HZ : Hid (d1.size ≤ 1000 ∧ rs.size ≤ 1000)) (HIT : Hid (∀ V, Below A.heap.size A V → Calls Tryd.prog 24 #[iv (st : Int)] V fun e V2 => e = .returned (.string d1) ∧ Below V.heap.size V V2)) (HRE : Hid (∀ V, Below A.heap.size A V → Calls Tryd.prog 10 #[iv (st : Int)] V fun e V2 => e = .returned (.string rs) ∧ Below V.heap.size V V2))
    (hQ : ∀ V1, Below A.heap.size A V1 → Q .normal { tmps := #[x0, .pointer (some ⟨b, 0, none⟩), x2, .string (((((⟨#[72, 84, 84, 80, 47, 49, 46, 49, 32]⟩ : BA) ++ d1) ++ (⟨#[32]⟩ : BA)) ++ rs) ++ (⟨#[13, 10]⟩ : BA)), .pointer (some ⟨b, 0, none⟩), iv (st : Int), .string d1, .string ((⟨#[72, 84, 84, 80, 47, 49, 46, 49, 32]⟩ : BA) ++ d1), .string (((⟨#[72, 84, 84, 80, 47, 49, 46, 49, 32]⟩ : BA) ++ d1) ++ (⟨#[32]⟩ : BA)), .pointer (some ⟨b, 0, none⟩), iv (st : Int), .string rs, .string ((((⟨#[72, 84, 84, 80, 47, 49, 46, 49, 32]⟩ : BA) ++ d1) ++ (⟨#[32]⟩ : BA)) ++ rs), .string (((((⟨#[72, 84, 84, 80, 47, 49, 46, 49, 32]⟩ : BA) ++ d1) ++ (⟨#[32]⟩ : BA)) ++ rs) ++ (⟨#[13, 10]⟩ : BA)), x14, x15, x16, x17, x18, x19, x20, x21, x22, x23, x24, x25, x26, x27, x28, x29, x30, x31, x32, x33, x34, x35, x36], defers := ds } V1) :
    (Code.region 1 #[{ dst := some 4, op := Op.fieldAddr 23 (Operand.tmp 1) 0, type := 0, pos := "reply.go:79", after := #[], guard := none }, { dst := some 5, op := Op.load 3 (Operand.tmp 4), type := 3, pos := "reply.go:79", after := #[{ on := 0, ground := Ground.data }], guard := none }, { dst := some 6, op := Op.call { callee := Callee.value (Operand.func 24), args := #[Operand.tmp 5], argTypes := #[3] }, type := 9, pos := "reply.go:79", after := #[{ on := 1, ground := Ground.data }], guard := none }, { dst := some 7, op := Op.binOp BinOp.add 9 (Operand.const (Value.string { data := #[72, 84, 84, 80, 47, 49, 46, 49, 32] })) (Operand.tmp 6) 9, type := 9, pos := "reply.go:79", after := #[{ on := 2, ground := Ground.data }], guard := none }, { dst := some 8, op := Op.binOp BinOp.add 9 (Operand.tmp 7) (Operand.const (Value.string { data := #[32] })) 9, type := 9, pos := "reply.go:79", after := #[{ on := 3, ground := Ground.data }], guard := none }, { dst := some 9, op := Op.fieldAddr 23 (Operand.tmp 1) 0, type := 0, pos := "reply.go:79", after := #[], guard := none }, { dst := some 10, op := Op.load 3 (Operand.tmp 9), type := 3, pos := "reply.go:79", after := #[{ on := 5, ground := Ground.data }], guard := none }, { dst := some 11, op := Op.call { callee := Callee.value (Operand.func 10), args := #[Operand.tmp 10], argTypes := #[3] }, type := 9, pos := "reply.go:79", after := #[{ on := 6, ground := Ground.data }, { on := 2, ground := Ground.chain }], guard := none }, { dst := some 12, op := Op.binOp BinOp.add 9 (Operand.tmp 8) (Operand.tmp 11) 9, type := 9, pos := "reply.go:79", after := #[{ on := 4, ground := Ground.data }, { on := 7, ground := Ground.data }], guard := none }, { dst := some 13, op := Op.binOp BinOp.add 9 (Operand.tmp 12) (Operand.const (Value.string { data := #[13, 10] })) 9, type := 9, pos := "reply.go:79", after := #[{ on := 8, ground := Ground.data }], guard := none }, { dst := some 3, op := Op.assign (Operand.tmp 13), type := 9, pos := "reply.go:79", after := #[{ on := 9, ground := Ground.data }, { on := 7, ground := Ground.chain }, { on := 0, ground := Ground.phase }, { on := 1, ground := Ground.phase }, { on := 2, ground := Ground.phase }, { on := 3, ground := Ground.phase }, { on := 4, ground := Ground.phase }, { on := 5, ground := Ground.phase }, { on := 6, ground := Ground.phase }, { on := 7, ground := Ground.phase }, { on := 8, ground := Ground.phase }, { on := 9, ground := Ground.phase }], guard := none }] true).wp Tryd.prog Q { tmps := #[x0, .pointer (some ⟨b, 0, none⟩), x2, x3, x4, x5, x6, x7, x8, x9, x10, x11, x12, x13, x14, x15, x16, x17, x18, x19, x20, x21, x22, x23, x24, x25, x26, x27, x28, x29, x30, x31, x32, x33, x34, x35, x36], defers := ds } A := by
  refine Code.wp_mono (Q := fun x a' w' => match x with | .normal => Q .normal a' w' | _ => False) (by intro x a' w' h; cases x <;> first | exact h | exact h.elim) ?_
  refine wp_region_held (S := fun V => Below A.heap.size A V) (by kernel_rfl) ?_
  have hS0 : Hid (Below A.heap.size A A.drew) := below_drew0 A
  change wpAnyH Tryd.prog .any _ _ (fun V => Below A.heap.size A V) 11 (Array.replicate 11 false) _ A.drew
  obtain ⟨V0, hV0⟩ : ∃ V0, A.drew = V0 := ⟨_, rfl⟩
  rw [hV0]
  rw [hV0] at hS0
  clear hV0
  refine wpAnyH_take (i := 0) (oi := { dst := some 4, op := Op.fieldAddr 23 (Operand.tmp 1) 0, type := 0, pos := "reply.go:79", after := #[], guard := none }) (v := .pointer (some ⟨b, 0, none⟩)) rfl (by kernel_rfl) (by kernel_rfl) (by kernel_rfl) (fun _ _ _ h => h.elim) (Or.inl ⟨by rfl, ?y1⟩) hS0.out ?_
  case y1 =>
    intro V hV
    go_simp
  simp only [Act.put, List.setIfInBounds_toArray, List.set_cons_zero, List.set_cons_succ]
  refine wpAnyH_take (i := 1) (oi := { dst := some 5, op := Op.load 3 (Operand.tmp 4), type := 3, pos := "reply.go:79", after := #[{ on := 0, ground := Ground.data }], guard := none }) (v := iv (st : Int)) rfl (by kernel_rfl) (by kernel_rfl) (by kernel_rfl) (fun _ _ _ h => h.elim) (Or.inl ⟨by rfl, ?y2⟩) hS0.out ?_
  case y2 =>
    intro V hV
    have hc : V.cell? ⟨b, 0, none⟩ = some (iv (st : Int)) := ((show Below A.heap.size A V from hV).cell (p := ⟨b, 0, none⟩) (HL.out)).trans c0
    go_simp
  simp only [Act.put, List.setIfInBounds_toArray, List.set_cons_zero, List.set_cons_succ]
  refine wpAnyH_take (i := 5) (oi := { dst := some 9, op := Op.fieldAddr 23 (Operand.tmp 1) 0, type := 0, pos := "reply.go:79", after := #[], guard := none }) (v := .pointer (some ⟨b, 0, none⟩)) rfl (by kernel_rfl) (by kernel_rfl) (by kernel_rfl) (fun _ _ _ h => h.elim) (Or.inl ⟨by rfl, ?y3⟩) hS0.out ?_
  case y3 =>
    intro V hV
    go_simp
  simp only [Act.put, List.setIfInBounds_toArray, List.set_cons_zero, List.set_cons_succ]
  refine wpAnyH_take (i := 6) (oi := { dst := some 10, op := Op.load 3 (Operand.tmp 9), type := 3, pos := "reply.go:79", after := #[{ on := 5, ground := Ground.data }], guard := none }) (v := iv (st : Int)) rfl (by kernel_rfl) (by kernel_rfl) (by kernel_rfl) (fun _ _ _ h => h.elim) (Or.inl ⟨by rfl, ?y4⟩) hS0.out ?_
  case y4 =>
    intro V hV
    have hc : V.cell? ⟨b, 0, none⟩ = some (iv (st : Int)) := ((show Below A.heap.size A V from hV).cell (p := ⟨b, 0, none⟩) (HL.out)).trans c0
    go_simp
  simp only [Act.put, List.setIfInBounds_toArray, List.set_cons_zero, List.set_cons_succ]
  refine wpAnyH_ready (rs := [2]) (by kernel_rfl) (by simp) (AllReadyH.cons (i := 2) (o := { dst := some 6, op := Op.call { callee := Callee.value (Operand.func 24), args := #[Operand.tmp 5], argTypes := #[3] }, type := 9, pos := "reply.go:79", after := #[{ on := 1, ground := Ground.data }], guard := none }) rfl ?_ AllReadyH.nil)
  · intro K1 hK1
    rw [if_pos (by rfl)]
    have HC1 := HIT.out V0 hS0.out
    go_wp2_with fail
    refine HC1.mono ?_
    rintro e V1 ⟨rfl, hb1⟩
    dsimp only
    clear HC1
    have hS1 : Hid (Below A.heap.size A V1) := hS0.out.trans (hb1.mono hS0.out.size)
    clear hb1
    refine hK1.out _ _ hS1.out ?_
    clear hK1
    intro _
    try simp only [Act.put, List.setIfInBounds_toArray, List.set_cons_zero, List.set_cons_succ]
    refine wpAnyH_take (i := 3) (oi := { dst := some 7, op := Op.binOp BinOp.add 9 (Operand.const (Value.string { data := #[72, 84, 84, 80, 47, 49, 46, 49, 32] })) (Operand.tmp 6) 9, type := 9, pos := "reply.go:79", after := #[{ on := 2, ground := Ground.data }], guard := none }) (v := .string ((⟨#[72, 84, 84, 80, 47, 49, 46, 49, 32]⟩ : BA) ++ d1)) rfl (by kernel_rfl) (by kernel_rfl) (by kernel_rfl) (fun _ _ _ h => h.elim) (Or.inl ⟨by rfl, ?y5⟩) hS1.out ?_
    case y5 =>
      intro V hV
      exact yl_cat V _ (.tmp 6) _ _ rfl rfl rfl (Nat.le_trans (show (⟨#[72, 84, 84, 80, 47, 49, 46, 49, 32]⟩ : BA).size ≤ 100 from by decide) (by decide)) (Nat.le_trans HZ.out.1 (by decide))
    simp only [Act.put, List.setIfInBounds_toArray, List.set_cons_zero, List.set_cons_succ]
    refine wpAnyH_take (i := 4) (oi := { dst := some 8, op := Op.binOp BinOp.add 9 (Operand.tmp 7) (Operand.const (Value.string { data := #[32] })) 9, type := 9, pos := "reply.go:79", after := #[{ on := 3, ground := Ground.data }], guard := none }) (v := .string (((⟨#[72, 84, 84, 80, 47, 49, 46, 49, 32]⟩ : BA) ++ d1) ++ (⟨#[32]⟩ : BA))) rfl (by kernel_rfl) (by kernel_rfl) (by kernel_rfl) (fun _ _ _ h => h.elim) (Or.inl ⟨by rfl, ?y6⟩) hS1.out ?_
    case y6 =>
      intro V hV
      exact yl_cat V (.tmp 7) _ _ _ rfl rfl rfl (Nat.le_trans (sz_app (show (⟨#[72, 84, 84, 80, 47, 49, 46, 49, 32]⟩ : BA).size ≤ 100 from by decide) HZ.out.1) (by decide)) (Nat.le_trans (show (⟨#[32]⟩ : BA).size ≤ 100 from by decide) (by decide))
    simp only [Act.put, List.setIfInBounds_toArray, List.set_cons_zero, List.set_cons_succ]
    refine wpAnyH_ready (rs := [7]) (by kernel_rfl) (by simp) (AllReadyH.cons (i := 7) (o := { dst := some 11, op := Op.call { callee := Callee.value (Operand.func 10), args := #[Operand.tmp 10], argTypes := #[3] }, type := 9, pos := "reply.go:79", after := #[{ on := 6, ground := Ground.data }, { on := 2, ground := Ground.chain }], guard := none }) rfl ?_ AllReadyH.nil)
    · intro K1 hK1
      rw [if_pos (by rfl)]
      have HC2 := HRE.out V1 hS1.out
      go_wp2_with fail
      refine HC2.mono ?_
      rintro e V2 ⟨rfl, hb2⟩
      dsimp only
      clear HC2
      have hS2 : Hid (Below A.heap.size A V2) := hS1.out.trans (hb2.mono hS1.out.size)
      clear hb2
      refine hK1.out _ _ hS2.out ?_
      clear hK1
      intro _
      try simp only [Act.put, List.setIfInBounds_toArray, List.set_cons_zero, List.set_cons_succ]
      refine wpAnyH_take (i := 8) (oi := { dst := some 12, op := Op.binOp BinOp.add 9 (Operand.tmp 8) (Operand.tmp 11) 9, type := 9, pos := "reply.go:79", after := #[{ on := 4, ground := Ground.data }, { on := 7, ground := Ground.data }], guard := none }) (v := .string ((((⟨#[72, 84, 84, 80, 47, 49, 46, 49, 32]⟩ : BA) ++ d1) ++ (⟨#[32]⟩ : BA)) ++ rs)) rfl (by kernel_rfl) (by kernel_rfl) (by kernel_rfl) (fun _ _ _ h => h.elim) (Or.inl ⟨by rfl, ?y7⟩) hS2.out ?_
      case y7 =>
        intro V hV
        exact yl_cat V (.tmp 8) (.tmp 11) _ _ rfl rfl rfl (Nat.le_trans (sz_app (sz_app (show (⟨#[72, 84, 84, 80, 47, 49, 46, 49, 32]⟩ : BA).size ≤ 100 from by decide) HZ.out.1) (show (⟨#[32]⟩ : BA).size ≤ 100 from by decide)) (by decide)) (Nat.le_trans HZ.out.2 (by decide))
      simp only [Act.put, List.setIfInBounds_toArray, List.set_cons_zero, List.set_cons_succ]
      refine wpAnyH_take (i := 9) (oi := { dst := some 13, op := Op.binOp BinOp.add 9 (Operand.tmp 12) (Operand.const (Value.string { data := #[13, 10] })) 9, type := 9, pos := "reply.go:79", after := #[{ on := 8, ground := Ground.data }], guard := none }) (v := .string (((((⟨#[72, 84, 84, 80, 47, 49, 46, 49, 32]⟩ : BA) ++ d1) ++ (⟨#[32]⟩ : BA)) ++ rs) ++ (⟨#[13, 10]⟩ : BA))) rfl (by kernel_rfl) (by kernel_rfl) (by kernel_rfl) (fun _ _ _ h => h.elim) (Or.inl ⟨by rfl, ?y8⟩) hS2.out ?_
      case y8 =>
        intro V hV
        exact yl_cat V (.tmp 12) _ _ _ rfl rfl rfl (Nat.le_trans (sz_app (sz_app (sz_app (show (⟨#[72, 84, 84, 80, 47, 49, 46, 49, 32]⟩ : BA).size ≤ 100 from by decide) HZ.out.1) (show (⟨#[32]⟩ : BA).size ≤ 100 from by decide)) HZ.out.2) (by decide)) (Nat.le_trans (show (⟨#[13, 10]⟩ : BA).size ≤ 100 from by decide) (by decide))
      simp only [Act.put, List.setIfInBounds_toArray, List.set_cons_zero, List.set_cons_succ]
      refine wpAnyH_take (i := 10) (oi := { dst := some 3, op := Op.assign (Operand.tmp 13), type := 9, pos := "reply.go:79", after := #[{ on := 9, ground := Ground.data }, { on := 7, ground := Ground.chain }, { on := 0, ground := Ground.phase }, { on := 1, ground := Ground.phase }, { on := 2, ground := Ground.phase }, { on := 3, ground := Ground.phase }, { on := 4, ground := Ground.phase }, { on := 5, ground := Ground.phase }, { on := 6, ground := Ground.phase }, { on := 7, ground := Ground.phase }, { on := 8, ground := Ground.phase }, { on := 9, ground := Ground.phase }], guard := none }) (v := .string (((((⟨#[72, 84, 84, 80, 47, 49, 46, 49, 32]⟩ : BA) ++ d1) ++ (⟨#[32]⟩ : BA)) ++ rs) ++ (⟨#[13, 10]⟩ : BA))) rfl (by kernel_rfl) (by kernel_rfl) (by kernel_rfl) (fun _ _ _ h => h.elim) (Or.inl ⟨by rfl, ?y9⟩) hS2.out ?_
      case y9 =>
        intro V hV
        go_simp
      simp only [Act.put, List.setIfInBounds_toArray, List.set_cons_zero, List.set_cons_succ]
      refine wpAnyH_done (by kernel_rfl) ?_ _
      exact hQ V2 hS2.out
#print axioms hd1
set_option maxRecDepth 100000 in
set_option maxHeartbeats 4000000 in
theorem tx1 {Q : Exit → Act → World → Prop} {x0 x2 x3 x4 x5 x6 x7 x8 x9 x10 x11 x12 x13 x14 x15 x16 x17 x18 x19 x20 x21 x22 x23 x24 x25 x26 x27 x28 x29 x30 x31 x32 x33 x34 x35 x36 x37 x38 x39 : Value} {ds : List Deferred} {A : World} {b st : Nat} {d1 rs : BA}
    (HL : Hid (b < A.heap.size)) (c0 : A.cell? ⟨b, 0, none⟩ = some (iv (st : Int))) (HZ : Hid (d1.size ≤ 1000 ∧ rs.size ≤ 1000)) (HIT : Hid (∀ V, Below A.heap.size A V → Calls Tryd.prog 25 #[iv (st : Int)] V fun e V2 => e = .returned (.string d1) ∧ Below V.heap.size V V2)) (HRE : Hid (∀ V, Below A.heap.size A V → Calls Tryd.prog 11 #[iv (st : Int)] V fun e V2 => e = .returned (.string rs) ∧ Below V.heap.size V V2))
    (hQ : ∀ V1, Below A.heap.size A V1 → Q .normal { tmps := #[x0, .pointer (some ⟨b, 0, none⟩), x2, .string (((((⟨#[72, 84, 84, 80, 47, 49, 46, 49, 32]⟩ : BA) ++ d1) ++ (⟨#[32]⟩ : BA)) ++ rs) ++ (⟨#[13, 10]⟩ : BA)), .pointer (some ⟨b, 0, none⟩), iv (st : Int), .string d1, .string ((⟨#[72, 84, 84, 80, 47, 49, 46, 49, 32]⟩ : BA) ++ d1), .string (((⟨#[72, 84, 84, 80, 47, 49, 46, 49, 32]⟩ : BA) ++ d1) ++ (⟨#[32]⟩ : BA)), .pointer (some ⟨b, 0, none⟩), iv (st : Int), .string rs, .string ((((⟨#[72, 84, 84, 80, 47, 49, 46, 49, 32]⟩ : BA) ++ d1) ++ (⟨#[32]⟩ : BA)) ++ rs), .string (((((⟨#[72, 84, 84, 80, 47, 49, 46, 49, 32]⟩ : BA) ++ d1) ++ (⟨#[32]⟩ : BA)) ++ rs) ++ (⟨#[13, 10]⟩ : BA)), x14, x15, x16, x17, x18, x19, x20, x21, x22, x23, x24, x25, x26, x27, x28, x29, x30, x31, x32, x33, x34, x35, x36, x37, x38, x39], defers := ds } V1) :
    (Code.region 1 #[{ dst := some 4, op := Op.fieldAddr 23 (Operand.tmp 1) 0, type := 0, pos := "ref.go:64", after := #[], guard := none }, { dst := some 5, op := Op.load 3 (Operand.tmp 4), type := 3, pos := "ref.go:64", after := #[{ on := 0, ground := Ground.data }], guard := none }, { dst := some 6, op := Op.call { callee := Callee.value (Operand.func 25), args := #[Operand.tmp 5], argTypes := #[3] }, type := 9, pos := "ref.go:64", after := #[{ on := 1, ground := Ground.data }], guard := none }, { dst := some 7, op := Op.binOp BinOp.add 9 (Operand.const (Value.string { data := #[72, 84, 84, 80, 47, 49, 46, 49, 32] })) (Operand.tmp 6) 9, type := 9, pos := "ref.go:64", after := #[{ on := 2, ground := Ground.data }], guard := none }, { dst := some 8, op := Op.binOp BinOp.add 9 (Operand.tmp 7) (Operand.const (Value.string { data := #[32] })) 9, type := 9, pos := "ref.go:64", after := #[{ on := 3, ground := Ground.data }], guard := none }, { dst := some 9, op := Op.fieldAddr 23 (Operand.tmp 1) 0, type := 0, pos := "ref.go:64", after := #[], guard := none }, { dst := some 10, op := Op.load 3 (Operand.tmp 9), type := 3, pos := "ref.go:64", after := #[{ on := 5, ground := Ground.data }], guard := none }, { dst := some 11, op := Op.call { callee := Callee.value (Operand.func 11), args := #[Operand.tmp 10], argTypes := #[3] }, type := 9, pos := "ref.go:64", after := #[{ on := 6, ground := Ground.data }, { on := 2, ground := Ground.chain }], guard := none }, { dst := some 12, op := Op.binOp BinOp.add 9 (Operand.tmp 8) (Operand.tmp 11) 9, type := 9, pos := "ref.go:64", after := #[{ on := 4, ground := Ground.data }, { on := 7, ground := Ground.data }], guard := none }, { dst := some 13, op := Op.binOp BinOp.add 9 (Operand.tmp 12) (Operand.const (Value.string { data := #[13, 10] })) 9, type := 9, pos := "ref.go:64", after := #[{ on := 8, ground := Ground.data }], guard := none }, { dst := some 3, op := Op.assign (Operand.tmp 13), type := 9, pos := "ref.go:64", after := #[{ on := 9, ground := Ground.data }, { on := 7, ground := Ground.chain }, { on := 0, ground := Ground.phase }, { on := 1, ground := Ground.phase }, { on := 2, ground := Ground.phase }, { on := 3, ground := Ground.phase }, { on := 4, ground := Ground.phase }, { on := 5, ground := Ground.phase }, { on := 6, ground := Ground.phase }, { on := 7, ground := Ground.phase }, { on := 8, ground := Ground.phase }, { on := 9, ground := Ground.phase }], guard := none }] true).wp Tryd.prog Q { tmps := #[x0, .pointer (some ⟨b, 0, none⟩), x2, x3, x4, x5, x6, x7, x8, x9, x10, x11, x12, x13, x14, x15, x16, x17, x18, x19, x20, x21, x22, x23, x24, x25, x26, x27, x28, x29, x30, x31, x32, x33, x34, x35, x36, x37, x38, x39], defers := ds } A := by
  refine Code.wp_mono (Q := fun x a' w' => match x with | .normal => Q .normal a' w' | _ => False) (by intro x a' w' h; cases x <;> first | exact h | exact h.elim) ?_
  refine wp_region_held (S := fun V => Below A.heap.size A V) (by kernel_rfl) ?_
  have hS0 : Hid (Below A.heap.size A A.drew) := below_drew0 A
  change wpAnyH Tryd.prog .any _ _ (fun V => Below A.heap.size A V) 11 (Array.replicate 11 false) _ A.drew
  obtain ⟨V0, hV0⟩ : ∃ V0, A.drew = V0 := ⟨_, rfl⟩
  rw [hV0]
  rw [hV0] at hS0
  clear hV0
  refine wpAnyH_take (i := 0) (oi := { dst := some 4, op := Op.fieldAddr 23 (Operand.tmp 1) 0, type := 0, pos := "ref.go:64", after := #[], guard := none }) (v := .pointer (some ⟨b, 0, none⟩)) rfl (by kernel_rfl) (by kernel_rfl) (by kernel_rfl) (fun _ _ _ h => h.elim) (Or.inl ⟨by rfl, ?y1⟩) hS0.out ?_
  case y1 =>
    intro V hV
    go_simp
  simp only [Act.put, List.setIfInBounds_toArray, List.set_cons_zero, List.set_cons_succ]
  refine wpAnyH_take (i := 1) (oi := { dst := some 5, op := Op.load 3 (Operand.tmp 4), type := 3, pos := "ref.go:64", after := #[{ on := 0, ground := Ground.data }], guard := none }) (v := iv (st : Int)) rfl (by kernel_rfl) (by kernel_rfl) (by kernel_rfl) (fun _ _ _ h => h.elim) (Or.inl ⟨by rfl, ?y2⟩) hS0.out ?_
  case y2 =>
    intro V hV
    have hc : V.cell? ⟨b, 0, none⟩ = some (iv (st : Int)) := ((show Below A.heap.size A V from hV).cell (p := ⟨b, 0, none⟩) (HL.out)).trans c0
    go_simp
  simp only [Act.put, List.setIfInBounds_toArray, List.set_cons_zero, List.set_cons_succ]
  refine wpAnyH_take (i := 5) (oi := { dst := some 9, op := Op.fieldAddr 23 (Operand.tmp 1) 0, type := 0, pos := "ref.go:64", after := #[], guard := none }) (v := .pointer (some ⟨b, 0, none⟩)) rfl (by kernel_rfl) (by kernel_rfl) (by kernel_rfl) (fun _ _ _ h => h.elim) (Or.inl ⟨by rfl, ?y3⟩) hS0.out ?_
  case y3 =>
    intro V hV
    go_simp
  simp only [Act.put, List.setIfInBounds_toArray, List.set_cons_zero, List.set_cons_succ]
  refine wpAnyH_take (i := 6) (oi := { dst := some 10, op := Op.load 3 (Operand.tmp 9), type := 3, pos := "ref.go:64", after := #[{ on := 5, ground := Ground.data }], guard := none }) (v := iv (st : Int)) rfl (by kernel_rfl) (by kernel_rfl) (by kernel_rfl) (fun _ _ _ h => h.elim) (Or.inl ⟨by rfl, ?y4⟩) hS0.out ?_
  case y4 =>
    intro V hV
    have hc : V.cell? ⟨b, 0, none⟩ = some (iv (st : Int)) := ((show Below A.heap.size A V from hV).cell (p := ⟨b, 0, none⟩) (HL.out)).trans c0
    go_simp
  simp only [Act.put, List.setIfInBounds_toArray, List.set_cons_zero, List.set_cons_succ]
  refine wpAnyH_ready (rs := [2]) (by kernel_rfl) (by simp) (AllReadyH.cons (i := 2) (o := { dst := some 6, op := Op.call { callee := Callee.value (Operand.func 25), args := #[Operand.tmp 5], argTypes := #[3] }, type := 9, pos := "ref.go:64", after := #[{ on := 1, ground := Ground.data }], guard := none }) rfl ?_ AllReadyH.nil)
  · intro K1 hK1
    rw [if_pos (by rfl)]
    have HC1 := HIT.out V0 hS0.out
    go_wp2_with fail
    refine HC1.mono ?_
    rintro e V1 ⟨rfl, hb1⟩
    dsimp only
    clear HC1
    have hS1 : Hid (Below A.heap.size A V1) := hS0.out.trans (hb1.mono hS0.out.size)
    clear hb1
    refine hK1.out _ _ hS1.out ?_
    clear hK1
    intro _
    try simp only [Act.put, List.setIfInBounds_toArray, List.set_cons_zero, List.set_cons_succ]
    refine wpAnyH_take (i := 3) (oi := { dst := some 7, op := Op.binOp BinOp.add 9 (Operand.const (Value.string { data := #[72, 84, 84, 80, 47, 49, 46, 49, 32] })) (Operand.tmp 6) 9, type := 9, pos := "ref.go:64", after := #[{ on := 2, ground := Ground.data }], guard := none }) (v := .string ((⟨#[72, 84, 84, 80, 47, 49, 46, 49, 32]⟩ : BA) ++ d1)) rfl (by kernel_rfl) (by kernel_rfl) (by kernel_rfl) (fun _ _ _ h => h.elim) (Or.inl ⟨by rfl, ?y5⟩) hS1.out ?_
    case y5 =>
      intro V hV
      exact yl_cat V _ (.tmp 6) _ _ rfl rfl rfl (Nat.le_trans (show (⟨#[72, 84, 84, 80, 47, 49, 46, 49, 32]⟩ : BA).size ≤ 100 from by decide) (by decide)) (Nat.le_trans HZ.out.1 (by decide))
    simp only [Act.put, List.setIfInBounds_toArray, List.set_cons_zero, List.set_cons_succ]
    refine wpAnyH_take (i := 4) (oi := { dst := some 8, op := Op.binOp BinOp.add 9 (Operand.tmp 7) (Operand.const (Value.string { data := #[32] })) 9, type := 9, pos := "ref.go:64", after := #[{ on := 3, ground := Ground.data }], guard := none }) (v := .string (((⟨#[72, 84, 84, 80, 47, 49, 46, 49, 32]⟩ : BA) ++ d1) ++ (⟨#[32]⟩ : BA))) rfl (by kernel_rfl) (by kernel_rfl) (by kernel_rfl) (fun _ _ _ h => h.elim) (Or.inl ⟨by rfl, ?y6⟩) hS1.out ?_
    case y6 =>
      intro V hV
      exact yl_cat V (.tmp 7) _ _ _ rfl rfl rfl (Nat.le_trans (sz_app (show (⟨#[72, 84, 84, 80, 47, 49, 46, 49, 32]⟩ : BA).size ≤ 100 from by decide) HZ.out.1) (by decide)) (Nat.le_trans (show (⟨#[32]⟩ : BA).size ≤ 100 from by decide) (by decide))
    simp only [Act.put, List.setIfInBounds_toArray, List.set_cons_zero, List.set_cons_succ]
    refine wpAnyH_ready (rs := [7]) (by kernel_rfl) (by simp) (AllReadyH.cons (i := 7) (o := { dst := some 11, op := Op.call { callee := Callee.value (Operand.func 11), args := #[Operand.tmp 10], argTypes := #[3] }, type := 9, pos := "ref.go:64", after := #[{ on := 6, ground := Ground.data }, { on := 2, ground := Ground.chain }], guard := none }) rfl ?_ AllReadyH.nil)
    · intro K1 hK1
      rw [if_pos (by rfl)]
      have HC2 := HRE.out V1 hS1.out
      go_wp2_with fail
      refine HC2.mono ?_
      rintro e V2 ⟨rfl, hb2⟩
      dsimp only
      clear HC2
      have hS2 : Hid (Below A.heap.size A V2) := hS1.out.trans (hb2.mono hS1.out.size)
      clear hb2
      refine hK1.out _ _ hS2.out ?_
      clear hK1
      intro _
      try simp only [Act.put, List.setIfInBounds_toArray, List.set_cons_zero, List.set_cons_succ]
      refine wpAnyH_take (i := 8) (oi := { dst := some 12, op := Op.binOp BinOp.add 9 (Operand.tmp 8) (Operand.tmp 11) 9, type := 9, pos := "ref.go:64", after := #[{ on := 4, ground := Ground.data }, { on := 7, ground := Ground.data }], guard := none }) (v := .string ((((⟨#[72, 84, 84, 80, 47, 49, 46, 49, 32]⟩ : BA) ++ d1) ++ (⟨#[32]⟩ : BA)) ++ rs)) rfl (by kernel_rfl) (by kernel_rfl) (by kernel_rfl) (fun _ _ _ h => h.elim) (Or.inl ⟨by rfl, ?y7⟩) hS2.out ?_
      case y7 =>
        intro V hV
        exact yl_cat V (.tmp 8) (.tmp 11) _ _ rfl rfl rfl (Nat.le_trans (sz_app (sz_app (show (⟨#[72, 84, 84, 80, 47, 49, 46, 49, 32]⟩ : BA).size ≤ 100 from by decide) HZ.out.1) (show (⟨#[32]⟩ : BA).size ≤ 100 from by decide)) (by decide)) (Nat.le_trans HZ.out.2 (by decide))
      simp only [Act.put, List.setIfInBounds_toArray, List.set_cons_zero, List.set_cons_succ]
      refine wpAnyH_take (i := 9) (oi := { dst := some 13, op := Op.binOp BinOp.add 9 (Operand.tmp 12) (Operand.const (Value.string { data := #[13, 10] })) 9, type := 9, pos := "ref.go:64", after := #[{ on := 8, ground := Ground.data }], guard := none }) (v := .string (((((⟨#[72, 84, 84, 80, 47, 49, 46, 49, 32]⟩ : BA) ++ d1) ++ (⟨#[32]⟩ : BA)) ++ rs) ++ (⟨#[13, 10]⟩ : BA))) rfl (by kernel_rfl) (by kernel_rfl) (by kernel_rfl) (fun _ _ _ h => h.elim) (Or.inl ⟨by rfl, ?y8⟩) hS2.out ?_
      case y8 =>
        intro V hV
        exact yl_cat V (.tmp 12) _ _ _ rfl rfl rfl (Nat.le_trans (sz_app (sz_app (sz_app (show (⟨#[72, 84, 84, 80, 47, 49, 46, 49, 32]⟩ : BA).size ≤ 100 from by decide) HZ.out.1) (show (⟨#[32]⟩ : BA).size ≤ 100 from by decide)) HZ.out.2) (by decide)) (Nat.le_trans (show (⟨#[13, 10]⟩ : BA).size ≤ 100 from by decide) (by decide))
      simp only [Act.put, List.setIfInBounds_toArray, List.set_cons_zero, List.set_cons_succ]
      refine wpAnyH_take (i := 10) (oi := { dst := some 3, op := Op.assign (Operand.tmp 13), type := 9, pos := "ref.go:64", after := #[{ on := 9, ground := Ground.data }, { on := 7, ground := Ground.chain }, { on := 0, ground := Ground.phase }, { on := 1, ground := Ground.phase }, { on := 2, ground := Ground.phase }, { on := 3, ground := Ground.phase }, { on := 4, ground := Ground.phase }, { on := 5, ground := Ground.phase }, { on := 6, ground := Ground.phase }, { on := 7, ground := Ground.phase }, { on := 8, ground := Ground.phase }, { on := 9, ground := Ground.phase }], guard := none }) (v := .string (((((⟨#[72, 84, 84, 80, 47, 49, 46, 49, 32]⟩ : BA) ++ d1) ++ (⟨#[32]⟩ : BA)) ++ rs) ++ (⟨#[13, 10]⟩ : BA))) rfl (by kernel_rfl) (by kernel_rfl) (by kernel_rfl) (fun _ _ _ h => h.elim) (Or.inl ⟨by rfl, ?y9⟩) hS2.out ?_
      case y9 =>
        intro V hV
        go_simp
      simp only [Act.put, List.setIfInBounds_toArray, List.set_cons_zero, List.set_cons_succ]
      refine wpAnyH_done (by kernel_rfl) ?_ _
      exact hQ V2 hS2.out
#print axioms tx1
end Go.Proofs.YtkpepfeiimphpaaDoor.Oct
