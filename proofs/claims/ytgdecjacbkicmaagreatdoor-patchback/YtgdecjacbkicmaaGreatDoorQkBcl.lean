/-
  Layer 10 (patch): Name, and the law Back.
-/
import Derived.Test.YtgdecjacbkicmaaGreatDoorQkDcl
import Derived.Test.YtgdecjacbkicmaaGreatDoorQkCtl
import Derived.Test.YtgdecjacbkicmaaGreatDoorQkLiv
import Derived.Test.YtgdecjacbkicmaaGreatDoorQkSam
import Derived.Test.YtgdecjacbkicmaaGreatDoorQkSmp
import Derived.Test.YtgdecjacbkicmaaGreatDoorQkRsm
import Derived.Test.YtgdecjacbkicmaaGreatDoorQkG
import Derived.Test.YtgdecjacbkicmaaGreatDoorQkUlr
import Derived.Test.YtgdecjacbkicmaaGreatDoorQkK
import Derived.Deep.MidRow
import Derived.Deep.RegionHeld
/- Layer 10 (patch): Name, and the law Back. -/
namespace Go.Proofs.YtgdecjacbkicmaaGreatDoor.Oct
open Go.RowKit
set_option maxRecDepth 100000
set_option linter.unusedSimpArgs false
set_option linter.unusedVariables false

theorem Tw.join {p q r : PV} (h : Tw p q) (k : Tw p r) : Tw q r := ⟨k.au.trans h.au.symm, k.tm.trans h.tm.symm, k.nt.trans h.nt.symm, k.D.trans h.D.symm, k.dn.trans h.dn.symm, k.on.trans h.on.symm, h.O.symm.trans k.O⟩
theorem toH {w : World} {a : Option Addr} {n c : Nat} {l : List UInt8} (h : In w a n c l) : Hsh.In w a n c l := h
theorem zero37 : ∃ Z : List Value, (∀ W, (zeroValue 37).run Tryz.prog W = .ok (.agg Z.toArray) W) ∧ Hid (Z = U z32) := ⟨U z32, fun W => by kernel_rfl, rfl⟩
def KS (w : World) : Prop := Hsh.KT w ∧ Hsh.ST w
theorem KS.below {w w' : World} (h : KS w) (hb : Below w.heap.size w w') : KS w' := ⟨h.1.below hb, h.2.below hb⟩
set_option maxHeartbeats 4000000 in
theorem name_ok (w : World) (p : PV) (hp : PR w p) (hc : chk p = 0) (hk : KS w) (D : List UInt8) (hD : Sha.sum (ptB p) = D) : Calls Tryz.prog 11 #[.agg p.cells.toArray] w fun e w' => e = .returned (.tuple #[.agg (U D).toArray, iv 0]) ∧ Below w.heap.size w w' := by
  have hD32 : D.length = 32 := by rw [← hD]; exact Hsh.sum_length _
  obtain ⟨Z, hZ, HZ⟩ := zero37
  obtain ⟨d1, hd1⟩ : ∃ d, w.heap.size = d := ⟨_, rfl⟩
  obtain ⟨Wa, hWa⟩ : ∃ W, w.alloc (.cells p.cells.toArray 25) = W := ⟨_, rfl⟩
  obtain ⟨d2, hd2⟩ : ∃ d, Wa.heap.size = d := ⟨_, rfl⟩
  obtain ⟨W, hW⟩ : ∃ W, Wa.alloc (.cells Z.toArray 37) = W := ⟨_, rfl⟩
  have b1 : Below w.heap.size w Wa := by rw [← hWa]; exact below_al _ _
  have b2 : Below Wa.heap.size Wa W := by rw [← hW]; exact below_al _ _
  have k1 : Blk Wa d1 25 p.cells := by rw [← hWa, ← hd1]; exact Blk.new w _ _
  have k2 : Blk W d2 37 Z := by rw [← hW, ← hd2]; exact Blk.new Wa _ _
  have HZL : Hid (Z.length = 32) := by show _ = _; rw [HZ.out]; rfl
  have H0 : Hid (Below w.heap.size w W ∧ Blk W d1 25 p.cells ∧ Blk W d2 37 Z ∧ PR W p ∧ KS W ∧ chk p = 0 ∧ w.heap.size ≤ d2 ∧ D.length = 32 ∧ Sha.sum (ptB p) = D) := ⟨below_tr b1 b2, k1.below b2 k1.lt, k2, hp.below (below_tr b1 b2), hk.below (below_tr b1 b2), hc, by have := b1.size; omega, hD32, hD⟩
  clear hp hc hk b1 b2 k1 k2 HZ hD32
  go_enter Tryz.func11, Tryz.ntmps11
  go_wp2_with (with_reducible change wpList _ _ _ ({ dst := some 7, op := _, type := _, pos := _, after := _, guard := _ } :: _) _ _; refine Hid.out ?_)
  show wpList _ _ _ _ _ _
  refine wpList_load_mid rfl 25 (.tmp 1) rfl d1 0 rfl p.cells _ H0.out.2.1.range0 Tryz.underlying25 rfl (info25 p) ?_
  clear hd1 hWa hd2 hW
  go_wp2_with fail
  refine (encode_is W p H0.out.2.2.2.1).mono ?_
  rintro e V2 ⟨(⟨hc, rfl⟩ | ⟨hc, va, n, c, rfl, how, hn⟩), hb2⟩
  · exact absurd H0.out.2.2.2.2.2.1 hc
  have hlen := ptB_len H0.out.2.2.2.1 hc
  have how' := how.out
  have hin : In V2 va n c (ptB p) := by
    obtain ⟨a', cp, e1, hin, _⟩ := own_in how' (by omega)
    cases e1
    rw [hn]
    exact hin
  have H2 : Hid (Below w.heap.size w V2 ∧ Blk V2 d2 37 Z ∧ KS V2 ∧ In V2 va n c (ptB p) ∧ n < 900000000000) := ⟨below_tr H0.out.1 hb2, H0.out.2.2.1.below hb2 H0.out.2.2.1.lt, H0.out.2.2.2.2.1.below hb2, hin, by omega⟩
  clear hc how hn hb2 hlen hin how'
  go_wp2_with fail
  refine (Hsh.sum_is' (ptB p) D H0.out.2.2.2.2.2.2.2.2 va n c V2 H2.out.2.2.1.1 H2.out.2.2.1.2 (toH H2.out.2.2.2.1) H2.out.2.2.2.2).mono ?_
  rintro e V3 ⟨rfl, hb3⟩
  have H3 : Hid (Below w.heap.size w V3 ∧ Blk V3 d2 37 Z) := ⟨below_tr H2.out.1 hb3.out, H2.out.2.1.below hb3.out H2.out.2.1.lt⟩
  clear hb3
  go_wp2_with (with_reducible change wpList _ _ _ ({ dst := none, op := Op.store 37 _ _, type := _, pos := _, after := _, guard := _ } :: _) _ _; refine Hid.out ?_)
  show wpList _ _ _ _ _ _
  refine wpList_store_blk rfl 37 (.tmp 2) (.tmp 16) rfl d2 0 37 Z (U D) rfl rfl H3.out.2 (by rw [HZL.out, U_length, H0.out.2.2.2.2.2.2.2.1]; omega) (info47 _ H0.out.2.2.2.2.2.2.2.1) (U_one _) ?_
  intro W9 hx hgs
  have HF : Hid (Blk W9 d2 37 (U D) ∧ Below w.heap.size w W9) := ⟨blk_all hx.out (by rw [HZL.out, U_length, H0.out.2.2.2.2.2.2.2.1]), below_gr H3.out.1 hgs.out H0.out.2.2.2.2.2.2.1⟩
  clear hx hgs
  go_wp2
  exact ret_cu rfl rfl rfl HF.out.1 Tryz.underlying37 rfl (info47 _ H0.out.2.2.2.2.2.2.2.1) ⟨rfl, HF.out.2⟩
theorem yl_eqE {o : Oper} {a : Act} (V : World) (p q : Operand) (x y : Int) (B : Bool) (hB : (x == y) = B) (hop : o.op = .binOp .eql 29 p q 29) (h1 : a.eval p = iv x) (h2 : a.eval q = iv y) : (execOp a.eval o).run Tryz.prog V = .ok (.value (.bool B)) V := by
  subst hB
  unfold execOp
  simp only [hop, h1, h2, Sem.run_bind, Sem.run_pure]
  first
  | (simp [eqGuard, go_sem, Tryz.underlying29]; done)
  | (go_simp; done)
set_option maxRecDepth 100000 in
set_option maxHeartbeats 4000000 in
theorem bk13 {Q : Exit → Act → World → Prop} {x0 x2 x3 x4 x5 x6 x7 x8 x9 x10 x15 x16 x17 x18 x19 x20 x21 x22 x23 x24 x25 x26 x27 x28 x29 x30 x31 x32 x33 x34 x35 x36 x37 x38 x39 x40 x41 x42 x43 x44 x45 x46 x47 x48 x49 x50 x51 x52 x53 x54 x55 x56 x57 x58 x59 x60 x61 x62 x63 x64 x65 x66 x67 x68 x69 x70 x71 x72 x73 x74 x75 x76 x77 x78 x79 x80 x81 x82 x83 x84 x85 x86 x87 x88 x89 x90 x91 x92 x93 x94 x95 x96 x97 x98 x99 x100 x101 x102 x103 : Value} {ds : List Deferred} {A : World} {d13 n c nn cc : Nat} {a va : Option Addr} {l D : List UInt8}
    (HI : Hid (In A a n c l ∧ In A va nn cc l)) (HB : Hid (Blk A d13 37 (U D))) (HD : Hid (D.length = 32)) (HR : Hid (∀ V, Below A.heap.size A V → Calls Tryz.prog 12 #[.slice a n c] V fun e V2 => e = .returned (.agg (U D).toArray) ∧ Below V.heap.size V V2)) (HL : Hid (∀ V, Below A.heap.size A V → Calls Tryz.prog 5 #[] V fun e V2 => e = .returned (.bool true) ∧ Below V.heap.size V V2))
    (hQ : ∀ V1, Below A.heap.size A V1 → Q .normal { tmps := #[x0, .slice a n c, x2, x3, .bool true, x5, x6, x7, x8, x9, x10, .slice va nn cc, iv 0, .pointer (some ⟨d13, 0, none⟩), iv 0, x15, x16, x17, x18, x19, x20, x21, x22, x23, x24, x25, x26, x27, x28, x29, x30, x31, x32, x33, x34, x35, x36, x37, x38, x39, x40, x41, x42, x43, x44, x45, x46, x47, x48, x49, x50, x51, x52, x53, x54, x55, x56, x57, x58, x59, x60, x61, x62, x63, x64, x65, x66, x67, x68, x69, x70, x71, x72, x73, x74, x75, x76, x77, x78, x79, x80, x81, iv 0, .bool true, .bool true, iv 0, .bool true, .bool true, .bool true, .slice va nn cc, .string ⟨l.toArray⟩, .slice a n c, .string ⟨l.toArray⟩, .bool true, .bool true, .bool true, .agg (U D).toArray, .slice a n c, .agg (U D).toArray, .bool true, .bool true, .bool true, .bool true, .bool true], defers := ds } V1) :
    (Code.region 13 #[{ dst := some 82, op := Op.move (Operand.tmp 12), type := 29, pos := "law.go:83", after := #[], guard := none }, { dst := some 83, op := Op.binOp BinOp.eql 29 (Operand.tmp 82) (Operand.const (Value.int IntKind.i64 0)) 29, type := 4, pos := "law.go:83", after := #[{ on := 0, ground := Ground.data }], guard := none }, { dst := some 84, op := Op.move (Operand.tmp 83), type := 4, pos := "law.go:83", after := #[{ on := 1, ground := Ground.data }], guard := none }, { dst := some 85, op := Op.move (Operand.tmp 14), type := 29, pos := "law.go:83", after := #[{ on := 2, ground := Ground.guard }], guard := some (2, true) }, { dst := some 86, op := Op.binOp BinOp.eql 29 (Operand.tmp 85) (Operand.const (Value.int IntKind.i64 0)) 29, type := 4, pos := "law.go:83", after := #[{ on := 3, ground := Ground.data }, { on := 2, ground := Ground.guard }], guard := some (2, true) }, { dst := some 87, op := Op.pick (Operand.tmp 84) (Operand.tmp 86) (Operand.const (Value.bool false)), type := 4, pos := "law.go:83", after := #[{ on := 2, ground := Ground.data }, { on := 4, ground := Ground.data }], guard := none }, { dst := some 88, op := Op.move (Operand.tmp 87), type := 4, pos := "law.go:83", after := #[{ on := 5, ground := Ground.data }, { on := 2, ground := Ground.chain }], guard := none }, { dst := some 89, op := Op.move (Operand.tmp 11), type := 26, pos := "law.go:83", after := #[{ on := 6, ground := Ground.guard }], guard := some (6, true) }, { dst := some 90, op := Op.convert 26 9 (Operand.tmp 89), type := 9, pos := "law.go:83", after := #[{ on := 7, ground := Ground.data }, { on := 6, ground := Ground.guard }], guard := some (6, true) }, { dst := some 91, op := Op.move (Operand.tmp 1), type := 26, pos := "law.go:83", after := #[{ on := 6, ground := Ground.guard }], guard := some (6, true) }, { dst := some 92, op := Op.convert 26 9 (Operand.tmp 91), type := 9, pos := "law.go:83", after := #[{ on := 9, ground := Ground.data }, { on := 6, ground := Ground.guard }], guard := some (6, true) }, { dst := some 93, op := Op.binOp BinOp.eql 9 (Operand.tmp 90) (Operand.tmp 92) 9, type := 4, pos := "law.go:83", after := #[{ on := 8, ground := Ground.data }, { on := 10, ground := Ground.data }, { on := 6, ground := Ground.guard }], guard := some (6, true) }, { dst := some 94, op := Op.pick (Operand.tmp 88) (Operand.tmp 93) (Operand.const (Value.bool false)), type := 4, pos := "law.go:83", after := #[{ on := 6, ground := Ground.data }, { on := 11, ground := Ground.data }], guard := none }, { dst := some 95, op := Op.move (Operand.tmp 94), type := 4, pos := "law.go:83", after := #[{ on := 12, ground := Ground.data }, { on := 6, ground := Ground.chain }], guard := none }, { dst := some 96, op := Op.load 37 (Operand.tmp 13), type := 37, pos := "law.go:83", after := #[{ on := 13, ground := Ground.guard }], guard := some (13, true) }, { dst := some 97, op := Op.move (Operand.tmp 1), type := 26, pos := "law.go:83", after := #[{ on := 13, ground := Ground.guard }], guard := some (13, true) }, { dst := some 98, op := Op.call { callee := Callee.value (Operand.func 12), args := #[Operand.tmp 97], argTypes := #[26] }, type := 37, pos := "law.go:83", after := #[{ on := 15, ground := Ground.data }, { on := 13, ground := Ground.chain }, { on := 13, ground := Ground.guard }], guard := some (13, true) }, { dst := some 99, op := Op.binOp BinOp.eql 37 (Operand.tmp 96) (Operand.tmp 98) 37, type := 4, pos := "law.go:83", after := #[{ on := 14, ground := Ground.data }, { on := 16, ground := Ground.data }, { on := 13, ground := Ground.guard }], guard := some (13, true) }, { dst := some 100, op := Op.pick (Operand.tmp 95) (Operand.tmp 99) (Operand.const (Value.bool false)), type := 4, pos := "law.go:83", after := #[{ on := 13, ground := Ground.data }, { on := 17, ground := Ground.data }], guard := none }, { dst := some 101, op := Op.move (Operand.tmp 100), type := 4, pos := "law.go:83", after := #[{ on := 18, ground := Ground.data }, { on := 16, ground := Ground.chain }], guard := none }, { dst := some 102, op := Op.call { callee := Callee.value (Operand.func 5), args := #[], argTypes := #[] }, type := 4, pos := "law.go:83", after := #[{ on := 19, ground := Ground.chain }, { on := 19, ground := Ground.guard }], guard := some (19, true) }, { dst := some 103, op := Op.pick (Operand.tmp 101) (Operand.tmp 102) (Operand.const (Value.bool false)), type := 4, pos := "law.go:83", after := #[{ on := 19, ground := Ground.data }, { on := 20, ground := Ground.data }], guard := none }, { dst := some 4, op := Op.assign (Operand.tmp 103), type := 4, pos := "law.go:83", after := #[{ on := 21, ground := Ground.data }, { on := 20, ground := Ground.chain }, { on := 0, ground := Ground.phase }, { on := 1, ground := Ground.phase }, { on := 2, ground := Ground.phase }, { on := 3, ground := Ground.phase }, { on := 4, ground := Ground.phase }, { on := 5, ground := Ground.phase }, { on := 6, ground := Ground.phase }, { on := 7, ground := Ground.phase }, { on := 8, ground := Ground.phase }, { on := 9, ground := Ground.phase }, { on := 10, ground := Ground.phase }, { on := 11, ground := Ground.phase }, { on := 12, ground := Ground.phase }, { on := 13, ground := Ground.phase }, { on := 14, ground := Ground.phase }, { on := 15, ground := Ground.phase }, { on := 16, ground := Ground.phase }, { on := 17, ground := Ground.phase }, { on := 18, ground := Ground.phase }, { on := 19, ground := Ground.phase }, { on := 20, ground := Ground.phase }, { on := 21, ground := Ground.phase }], guard := none }] true).wp Tryz.prog Q { tmps := #[x0, .slice a n c, x2, x3, x4, x5, x6, x7, x8, x9, x10, .slice va nn cc, iv 0, .pointer (some ⟨d13, 0, none⟩), iv 0, x15, x16, x17, x18, x19, x20, x21, x22, x23, x24, x25, x26, x27, x28, x29, x30, x31, x32, x33, x34, x35, x36, x37, x38, x39, x40, x41, x42, x43, x44, x45, x46, x47, x48, x49, x50, x51, x52, x53, x54, x55, x56, x57, x58, x59, x60, x61, x62, x63, x64, x65, x66, x67, x68, x69, x70, x71, x72, x73, x74, x75, x76, x77, x78, x79, x80, x81, x82, x83, x84, x85, x86, x87, x88, x89, x90, x91, x92, x93, x94, x95, x96, x97, x98, x99, x100, x101, x102, x103], defers := ds } A := by
  refine Code.wp_mono (Q := fun x a' w' => match x with | .normal => Q .normal a' w' | _ => False) (by intro x a' w' h; cases x <;> first | exact h | exact h.elim) ?_
  refine wp_region_held (S := fun V => Below A.heap.size A V) (by kernel_rfl) ?_
  have hS0 : Hid (Below A.heap.size A A.drew) := below_drew0 A
  change wpAnyH Tryz.prog .any _ _ (fun V => Below A.heap.size A V) 23 (Array.replicate 23 false) _ A.drew
  obtain ⟨V0, hV0⟩ : ∃ V0, A.drew = V0 := ⟨_, rfl⟩
  rw [hV0]
  rw [hV0] at hS0
  clear hV0
  refine wpAnyH_take (i := 0) (oi := { dst := some 82, op := Op.move (Operand.tmp 12), type := 29, pos := "law.go:83", after := #[], guard := none }) (v := iv 0) rfl (by kernel_rfl) (by kernel_rfl) (by kernel_rfl) (fun _ _ _ h => h.elim) (Or.inl ⟨by rfl, ?y1⟩) hS0.out ?_
  case y1 =>
    intro V hV
    go_simp
  simp only [Act.put, List.setIfInBounds_toArray, List.set_cons_zero, List.set_cons_succ]
  refine wpAnyH_take (i := 1) (oi := { dst := some 83, op := Op.binOp BinOp.eql 29 (Operand.tmp 82) (Operand.const (Value.int IntKind.i64 0)) 29, type := 4, pos := "law.go:83", after := #[{ on := 0, ground := Ground.data }], guard := none }) (v := .bool true) rfl (by kernel_rfl) (by kernel_rfl) (by kernel_rfl) (fun _ _ _ h => h.elim) (Or.inl ⟨by rfl, ?y2⟩) hS0.out ?_
  case y2 =>
    intro V hV
    exact yl_eqE V _ _ 0 0 true rfl rfl rfl rfl
  simp only [Act.put, List.setIfInBounds_toArray, List.set_cons_zero, List.set_cons_succ]
  refine wpAnyH_take (i := 2) (oi := { dst := some 84, op := Op.move (Operand.tmp 83), type := 4, pos := "law.go:83", after := #[{ on := 1, ground := Ground.data }], guard := none }) (v := .bool true) rfl (by kernel_rfl) (by kernel_rfl) (by kernel_rfl) (fun _ _ _ h => h.elim) (Or.inl ⟨by rfl, ?y3⟩) hS0.out ?_
  case y3 =>
    intro V hV
    go_simp
  simp only [Act.put, List.setIfInBounds_toArray, List.set_cons_zero, List.set_cons_succ]
  refine wpAnyH_take (i := 3) (oi := { dst := some 85, op := Op.move (Operand.tmp 14), type := 29, pos := "law.go:83", after := #[{ on := 2, ground := Ground.guard }], guard := some (2, true) }) (v := iv 0) rfl (by kernel_rfl) (by kernel_rfl) (by kernel_rfl) (fun _ _ _ h => h.elim) (Or.inl ⟨by rfl, ?y4⟩) hS0.out ?_
  case y4 =>
    intro V hV
    go_simp
  simp only [Act.put, List.setIfInBounds_toArray, List.set_cons_zero, List.set_cons_succ]
  refine wpAnyH_take (i := 4) (oi := { dst := some 86, op := Op.binOp BinOp.eql 29 (Operand.tmp 85) (Operand.const (Value.int IntKind.i64 0)) 29, type := 4, pos := "law.go:83", after := #[{ on := 3, ground := Ground.data }, { on := 2, ground := Ground.guard }], guard := some (2, true) }) (v := .bool true) rfl (by kernel_rfl) (by kernel_rfl) (by kernel_rfl) (fun _ _ _ h => h.elim) (Or.inl ⟨by rfl, ?y5⟩) hS0.out ?_
  case y5 =>
    intro V hV
    exact yl_eqE V _ _ 0 0 true rfl rfl rfl rfl
  simp only [Act.put, List.setIfInBounds_toArray, List.set_cons_zero, List.set_cons_succ]
  refine wpAnyH_take (i := 5) (oi := { dst := some 87, op := Op.pick (Operand.tmp 84) (Operand.tmp 86) (Operand.const (Value.bool false)), type := 4, pos := "law.go:83", after := #[{ on := 2, ground := Ground.data }, { on := 4, ground := Ground.data }], guard := none }) (v := .bool true) rfl (by kernel_rfl) (by kernel_rfl) (by kernel_rfl) (fun _ _ _ h => h.elim) (Or.inl ⟨by rfl, ?y6⟩) hS0.out ?_
  case y6 =>
    intro V hV
    go_simp
  simp only [Act.put, List.setIfInBounds_toArray, List.set_cons_zero, List.set_cons_succ]
  refine wpAnyH_take (i := 6) (oi := { dst := some 88, op := Op.move (Operand.tmp 87), type := 4, pos := "law.go:83", after := #[{ on := 5, ground := Ground.data }, { on := 2, ground := Ground.chain }], guard := none }) (v := .bool true) rfl (by kernel_rfl) (by kernel_rfl) (by kernel_rfl) (fun _ _ _ h => h.elim) (Or.inl ⟨by rfl, ?y7⟩) hS0.out ?_
  case y7 =>
    intro V hV
    go_simp
  simp only [Act.put, List.setIfInBounds_toArray, List.set_cons_zero, List.set_cons_succ]
  refine wpAnyH_take (i := 7) (oi := { dst := some 89, op := Op.move (Operand.tmp 11), type := 26, pos := "law.go:83", after := #[{ on := 6, ground := Ground.guard }], guard := some (6, true) }) (v := .slice va nn cc) rfl (by kernel_rfl) (by kernel_rfl) (by kernel_rfl) (fun _ _ _ h => h.elim) (Or.inl ⟨by rfl, ?y8⟩) hS0.out ?_
  case y8 =>
    intro V hV
    go_simp
  simp only [Act.put, List.setIfInBounds_toArray, List.set_cons_zero, List.set_cons_succ]
  refine wpAnyH_take (i := 8) (oi := { dst := some 90, op := Op.convert 26 9 (Operand.tmp 89), type := 9, pos := "law.go:83", after := #[{ on := 7, ground := Ground.data }, { on := 6, ground := Ground.guard }], guard := some (6, true) }) (v := .string ⟨l.toArray⟩) rfl (by kernel_rfl) (by kernel_rfl) (by kernel_rfl) (fun _ _ _ h => h.elim) (Or.inl ⟨by rfl, ?y9⟩) hS0.out ?_
  case y9 =>
    intro V hV
    exact yl_conv V _ (.slice va nn cc) _ (string_in Tryz.underlying26 Tryz.underlying5 Tryz.underlying9 (HI.out.2.below hV)) rfl rfl
  simp only [Act.put, List.setIfInBounds_toArray, List.set_cons_zero, List.set_cons_succ]
  refine wpAnyH_take (i := 9) (oi := { dst := some 91, op := Op.move (Operand.tmp 1), type := 26, pos := "law.go:83", after := #[{ on := 6, ground := Ground.guard }], guard := some (6, true) }) (v := .slice a n c) rfl (by kernel_rfl) (by kernel_rfl) (by kernel_rfl) (fun _ _ _ h => h.elim) (Or.inl ⟨by rfl, ?y10⟩) hS0.out ?_
  case y10 =>
    intro V hV
    go_simp
  simp only [Act.put, List.setIfInBounds_toArray, List.set_cons_zero, List.set_cons_succ]
  refine wpAnyH_take (i := 10) (oi := { dst := some 92, op := Op.convert 26 9 (Operand.tmp 91), type := 9, pos := "law.go:83", after := #[{ on := 9, ground := Ground.data }, { on := 6, ground := Ground.guard }], guard := some (6, true) }) (v := .string ⟨l.toArray⟩) rfl (by kernel_rfl) (by kernel_rfl) (by kernel_rfl) (fun _ _ _ h => h.elim) (Or.inl ⟨by rfl, ?y11⟩) hS0.out ?_
  case y11 =>
    intro V hV
    exact yl_conv V _ (.slice a n c) _ (string_in Tryz.underlying26 Tryz.underlying5 Tryz.underlying9 (HI.out.1.below hV)) rfl rfl
  simp only [Act.put, List.setIfInBounds_toArray, List.set_cons_zero, List.set_cons_succ]
  refine wpAnyH_take (i := 11) (oi := { dst := some 93, op := Op.binOp BinOp.eql 9 (Operand.tmp 90) (Operand.tmp 92) 9, type := 4, pos := "law.go:83", after := #[{ on := 8, ground := Ground.data }, { on := 10, ground := Ground.data }, { on := 6, ground := Ground.guard }], guard := some (6, true) }) (v := .bool true) rfl (by kernel_rfl) (by kernel_rfl) (by kernel_rfl) (fun _ _ _ h => h.elim) (Or.inl ⟨by rfl, ?y12⟩) hS0.out ?_
  case y12 =>
    intro V hV
    exact yl_eqS V _ _ ⟨l.toArray⟩ ⟨l.toArray⟩ true (by simp) rfl rfl rfl
  simp only [Act.put, List.setIfInBounds_toArray, List.set_cons_zero, List.set_cons_succ]
  refine wpAnyH_take (i := 12) (oi := { dst := some 94, op := Op.pick (Operand.tmp 88) (Operand.tmp 93) (Operand.const (Value.bool false)), type := 4, pos := "law.go:83", after := #[{ on := 6, ground := Ground.data }, { on := 11, ground := Ground.data }], guard := none }) (v := .bool true) rfl (by kernel_rfl) (by kernel_rfl) (by kernel_rfl) (fun _ _ _ h => h.elim) (Or.inl ⟨by rfl, ?y13⟩) hS0.out ?_
  case y13 =>
    intro V hV
    go_simp
  simp only [Act.put, List.setIfInBounds_toArray, List.set_cons_zero, List.set_cons_succ]
  refine wpAnyH_take (i := 13) (oi := { dst := some 95, op := Op.move (Operand.tmp 94), type := 4, pos := "law.go:83", after := #[{ on := 12, ground := Ground.data }, { on := 6, ground := Ground.chain }], guard := none }) (v := .bool true) rfl (by kernel_rfl) (by kernel_rfl) (by kernel_rfl) (fun _ _ _ h => h.elim) (Or.inl ⟨by rfl, ?y14⟩) hS0.out ?_
  case y14 =>
    intro V hV
    go_simp
  simp only [Act.put, List.setIfInBounds_toArray, List.set_cons_zero, List.set_cons_succ]
  refine wpAnyH_take (i := 14) (oi := { dst := some 96, op := Op.load 37 (Operand.tmp 13), type := 37, pos := "law.go:83", after := #[{ on := 13, ground := Ground.guard }], guard := some (13, true) }) (v := .agg (U D).toArray) rfl (by kernel_rfl) (by kernel_rfl) (by kernel_rfl) (fun _ _ _ h => h.elim) (Or.inl ⟨by rfl, ?y15⟩) hS0.out ?_
  case y15 =>
    intro V hV
    have hr : V.rangeAt d13 0 (U D) := (HB.out.below hV HB.out.lt).range0
    exact yl_ld V 37 (.tmp 13) rfl d13 0 rfl (U D) _ hr Tryz.underlying37 rfl (info47 _ HD.out)
  simp only [Act.put, List.setIfInBounds_toArray, List.set_cons_zero, List.set_cons_succ]
  refine wpAnyH_take (i := 15) (oi := { dst := some 97, op := Op.move (Operand.tmp 1), type := 26, pos := "law.go:83", after := #[{ on := 13, ground := Ground.guard }], guard := some (13, true) }) (v := .slice a n c) rfl (by kernel_rfl) (by kernel_rfl) (by kernel_rfl) (fun _ _ _ h => h.elim) (Or.inl ⟨by rfl, ?y16⟩) hS0.out ?_
  case y16 =>
    intro V hV
    go_simp
  simp only [Act.put, List.setIfInBounds_toArray, List.set_cons_zero, List.set_cons_succ]
  refine wpAnyH_ready (rs := [16]) (by kernel_rfl) (by simp) (AllReadyH.cons (i := 16) (o := { dst := some 98, op := Op.call { callee := Callee.value (Operand.func 12), args := #[Operand.tmp 97], argTypes := #[26] }, type := 37, pos := "law.go:83", after := #[{ on := 15, ground := Ground.data }, { on := 13, ground := Ground.chain }, { on := 13, ground := Ground.guard }], guard := some (13, true) }) rfl ?_ AllReadyH.nil)
  · intro K1 hK1
    rw [if_pos (by rfl)]
    have HC1 := HR.out V0 hS0.out
    go_wp2_with fail
    refine HC1.mono ?_
    rintro e V1 ⟨rfl, hb1⟩
    dsimp only
    clear HC1
    have hS1 : Hid (Below A.heap.size A V1) := hS0.out.trans (hb1.mono hS0.out.size)
    clear hb1
    refine hK1.out _ _ hS1.out ?_
    clear hK1
    intro _
    try simp only [Act.put, List.setIfInBounds_toArray, List.set_cons_zero, List.set_cons_succ]
    refine wpAnyH_take (i := 17) (oi := { dst := some 99, op := Op.binOp BinOp.eql 37 (Operand.tmp 96) (Operand.tmp 98) 37, type := 4, pos := "law.go:83", after := #[{ on := 14, ground := Ground.data }, { on := 16, ground := Ground.data }, { on := 13, ground := Ground.guard }], guard := some (13, true) }) (v := .bool true) rfl (by kernel_rfl) (by kernel_rfl) (by kernel_rfl) (fun _ _ _ h => h.elim) (Or.inl ⟨by rfl, ?y17⟩) hS1.out ?_
    case y17 =>
      intro V hV
      exact yl_eqH V _ _ D D HD.out HD.out true (by simp) rfl rfl rfl
    simp only [Act.put, List.setIfInBounds_toArray, List.set_cons_zero, List.set_cons_succ]
    refine wpAnyH_take (i := 18) (oi := { dst := some 100, op := Op.pick (Operand.tmp 95) (Operand.tmp 99) (Operand.const (Value.bool false)), type := 4, pos := "law.go:83", after := #[{ on := 13, ground := Ground.data }, { on := 17, ground := Ground.data }], guard := none }) (v := .bool true) rfl (by kernel_rfl) (by kernel_rfl) (by kernel_rfl) (fun _ _ _ h => h.elim) (Or.inl ⟨by rfl, ?y18⟩) hS1.out ?_
    case y18 =>
      intro V hV
      go_simp
    simp only [Act.put, List.setIfInBounds_toArray, List.set_cons_zero, List.set_cons_succ]
    refine wpAnyH_take (i := 19) (oi := { dst := some 101, op := Op.move (Operand.tmp 100), type := 4, pos := "law.go:83", after := #[{ on := 18, ground := Ground.data }, { on := 16, ground := Ground.chain }], guard := none }) (v := .bool true) rfl (by kernel_rfl) (by kernel_rfl) (by kernel_rfl) (fun _ _ _ h => h.elim) (Or.inl ⟨by rfl, ?y19⟩) hS1.out ?_
    case y19 =>
      intro V hV
      go_simp
    simp only [Act.put, List.setIfInBounds_toArray, List.set_cons_zero, List.set_cons_succ]
    refine wpAnyH_ready (rs := [20]) (by kernel_rfl) (by simp) (AllReadyH.cons (i := 20) (o := { dst := some 102, op := Op.call { callee := Callee.value (Operand.func 5), args := #[], argTypes := #[] }, type := 4, pos := "law.go:83", after := #[{ on := 19, ground := Ground.chain }, { on := 19, ground := Ground.guard }], guard := some (19, true) }) rfl ?_ AllReadyH.nil)
    · intro K1 hK1
      rw [if_pos (by rfl)]
      have HC2 := HL.out V1 hS1.out
      go_wp2_with fail
      refine HC2.mono ?_
      rintro e V2 ⟨rfl, hb2⟩
      dsimp only
      clear HC2
      have hS2 : Hid (Below A.heap.size A V2) := hS1.out.trans (hb2.mono hS1.out.size)
      clear hb2
      refine hK1.out _ _ hS2.out ?_
      clear hK1
      intro _
      try simp only [Act.put, List.setIfInBounds_toArray, List.set_cons_zero, List.set_cons_succ]
      refine wpAnyH_take (i := 21) (oi := { dst := some 103, op := Op.pick (Operand.tmp 101) (Operand.tmp 102) (Operand.const (Value.bool false)), type := 4, pos := "law.go:83", after := #[{ on := 19, ground := Ground.data }, { on := 20, ground := Ground.data }], guard := none }) (v := .bool true) rfl (by kernel_rfl) (by kernel_rfl) (by kernel_rfl) (fun _ _ _ h => h.elim) (Or.inl ⟨by rfl, ?y20⟩) hS2.out ?_
      case y20 =>
        intro V hV
        go_simp
      simp only [Act.put, List.setIfInBounds_toArray, List.set_cons_zero, List.set_cons_succ]
      refine wpAnyH_take (i := 22) (oi := { dst := some 4, op := Op.assign (Operand.tmp 103), type := 4, pos := "law.go:83", after := #[{ on := 21, ground := Ground.data }, { on := 20, ground := Ground.chain }, { on := 0, ground := Ground.phase }, { on := 1, ground := Ground.phase }, { on := 2, ground := Ground.phase }, { on := 3, ground := Ground.phase }, { on := 4, ground := Ground.phase }, { on := 5, ground := Ground.phase }, { on := 6, ground := Ground.phase }, { on := 7, ground := Ground.phase }, { on := 8, ground := Ground.phase }, { on := 9, ground := Ground.phase }, { on := 10, ground := Ground.phase }, { on := 11, ground := Ground.phase }, { on := 12, ground := Ground.phase }, { on := 13, ground := Ground.phase }, { on := 14, ground := Ground.phase }, { on := 15, ground := Ground.phase }, { on := 16, ground := Ground.phase }, { on := 17, ground := Ground.phase }, { on := 18, ground := Ground.phase }, { on := 19, ground := Ground.phase }, { on := 20, ground := Ground.phase }, { on := 21, ground := Ground.phase }], guard := none }) (v := .bool true) rfl (by kernel_rfl) (by kernel_rfl) (by kernel_rfl) (fun _ _ _ h => h.elim) (Or.inl ⟨by rfl, ?y21⟩) hS2.out ?_
      case y21 =>
        intro V hV
        go_simp
      simp only [Act.put, List.setIfInBounds_toArray, List.set_cons_zero, List.set_cons_succ]
      refine wpAnyH_done (by kernel_rfl) ?_ _
      exact hQ V2 hS2.out
set_option maxHeartbeats 8000000 in
theorem back_law (w : World) (p : PV) (hp : PR w p) (a : Option Addr) (n c : Nat) (l : List UInt8) (hin : In w a n c l) (hk : KS w) : Calls Tryz.prog 3 #[.agg p.cells.toArray, .slice a n c] w fun e w' => e = .returned (.bool true) ∧ Below w.heap.size w w' := by
  obtain ⟨d2, hd2⟩ : ∃ d, w.heap.size = d := ⟨_, rfl⟩
  obtain ⟨W, hW⟩ : ∃ W, w.alloc (.cells p.cells.toArray 25) = W := ⟨_, rfl⟩
  have hkb : Blk W d2 25 p.cells := by rw [← hW, ← hd2]; exact Blk.new w _ _
  have hbw : Below w.heap.size w W := by rw [← hW]; exact below_al _ _
  have HP : Hid (PR W p ∧ Below w.heap.size w W ∧ Blk W d2 25 p.cells ∧ In W a n c l ∧ KS W) := ⟨hp.below hbw, hbw, hkb, hin.below hbw, hk.below hbw⟩
  have qn0 : (n : Int) ≤ 140737488355328 := by have := hin.2.2.1; omega
  have hZ := zero25
  clear hp hkb hbw hin hk
  go_enter Tryz.func3, Tryz.ntmps3
  go_wp2_with (with_reducible change wpList _ _ _ ({ dst := some 15, op := _, type := _, pos := _, after := _, guard := _ } :: _) _ _; refine Hid.out ?_)
  show wpList _ _ _ _ _ _
  refine wpList_load_mid rfl 25 (.tmp 2) rfl d2 0 rfl p.cells _ HP.out.2.2.1.range0 Tryz.underlying25 rfl (info25 p) ?_
  clear hd2 hW
  go_wp2_with fail
  refine (light_is W p HP.out.1).mono ?_
  rintro e V1 ⟨B1, rfl, hl1, hb1⟩
  have H1 : Hid ((B1 = true → LT p) ∧ PR V1 p ∧ Below w.heap.size w V1 ∧ Blk V1 d2 25 p.cells ∧ In V1 a n c l ∧ KS V1) := ⟨hl1.out, HP.out.1.below hb1, below_tr HP.out.2.1 hb1, HP.out.2.2.1.below hb1 HP.out.2.2.1.lt, HP.out.2.2.2.1.below hb1, HP.out.2.2.2.2.below hb1⟩
  clear hl1 hb1 HP
  have lastly : ∀ V : World, Below w.heap.size w V → Calls Tryz.prog 5 #[] V fun e V2 => e = .returned (.bool true) ∧ Below w.heap.size w V2 := fun V hV => (lives_is V).mono fun e V2 h => ⟨h.1, below_tr hV h.2⟩
  have HLA : Hid (∀ V : World, Below w.heap.size w V → Calls Tryz.prog 5 #[] V fun e V2 => e = .returned (.bool true) ∧ Below w.heap.size w V2) := lastly
  clear lastly
  cases B1 with
  | false =>
    go_wp2_with fail
    refine (HLA.out V1 H1.out.2.2.1).mono ?_
    rintro e V9 ⟨rfl, hb9⟩
    have HF : Hid (Below w.heap.size w V9) := hb9
    clear hb9
    go_wp2
    go_ret
    exact ⟨rfl, HF.out⟩
  | true =>
  by_cases hbig : 20000 < n
  · have q1 : (20000 : Int) < (n : Int) := by omega
    have gn : decide (20000 < n) = true := decide_eq_true hbig
    clear hbig
    go_wp2_with fail
    refine (HLA.out V1 H1.out.2.2.1).mono ?_
    rintro e V9 ⟨rfl, hb9⟩
    have HF : Hid (Below w.heap.size w V9) := hb9
    clear hb9
    go_wp2
    go_ret
    exact ⟨rfl, HF.out⟩
  have q1 : (n : Int) ≤ 20000 := by omega
  have gn : decide (20000 < n) = false := decide_eq_false hbig
  have HN : Hid (n ≤ 20000) := by show _ ≤ _; omega
  have HLT : Hid (LT p) := H1.out.1 (by trivial)
  clear hbig
  go_wp2_with (with_reducible change wpList _ _ _ ({ dst := some 25, op := _, type := _, pos := _, after := _, guard := _ } :: _) _ _; refine Hid.out ?_)
  show wpList _ _ _ _ _ _
  refine wpList_load_mid rfl 25 (.tmp 2) rfl d2 0 rfl p.cells _ H1.out.2.2.2.1.range0 Tryz.underlying25 rfl (info25 p) ?_
  go_wp2_with fail
  refine (encode_is V1 p H1.out.2.1).mono ?_
  rintro e V2 ⟨(⟨hc, rfl⟩ | ⟨hc, va, nn, cc, rfl, how, hn⟩), hb2⟩
  · obtain ⟨E, hE⟩ : ∃ E, chk p = E := ⟨_, rfl⟩
    rw [hE] at hc ⊢
    have e1 : (E == 0) = false := by simpa using hc
    have HS : Hid (Below w.heap.size w V2 ∧ In V2 a n c l ∧ KS V2) := ⟨below_tr H1.out.2.2.1 hb2, H1.out.2.2.2.2.1.below hb2, H1.out.2.2.2.2.2.below hb2⟩
    clear hc hb2 hE H1
    go_wp2_with fail
    refine (decode16 a n c l V2 HS.out.2.1).mono ?_
    intro e U3 hdp
    obtain ⟨hb3, q8, E8, rfl, hda⟩ := hdp.da
    obtain ⟨d9, hd9⟩ : ∃ d, U3.heap.size = d := ⟨_, rfl⟩
    have G3 : Hid (Below w.heap.size w U3 ∧ In U3 a n c l ∧ KS U3 ∧ DA U3 l q8 E8) := ⟨below_tr HS.out.1 hb3, HS.out.2.1.below hb3, HS.out.2.2.below hb3, hda⟩
    clear hdp hb3 hda
    go_wp2_with (with_reducible change wpList _ _ _ ({ dst := none, op := Op.store 25 _ _, type := _, pos := _, after := _, guard := _ } :: _) _ _; refine Hid.out ?_)
    show wpList _ _ _ _ _ _
    refine wpList_store_blk rfl 25 (.tmp 9) (.tmp 58) rfl d9 0 25 p00.cells q8.cells rfl rfl (by rw [← hd9]; exact Blk.new U3 _ _) (Nat.le_refl _) (info25 q8) (PV.one _) ?_
    intro U4 hx hgs
    have G4 : Hid (Below w.heap.size w U4 ∧ In U4 a n c l ∧ KS U4 ∧ DA U4 l q8 E8 ∧ Blk U4 d9 25 q8.cells) := by
      have hb : Below U3.heap.size U3 U4 := below_gr (below_al U3 _) hgs.out (by omega)
      exact ⟨below_tr G3.out.1 hb, G3.out.2.1.below hb, G3.out.2.2.1.below hb, G3.out.2.2.2.fk (Fk.of_below (S := []) (B := 0) hb (Nat.zero_le _)) (by simp) (by simp) (by simp), blk_all hx.out rfl⟩
    clear hx hgs hd9 G3
    rcases G4.out.2.2.2.1 with ⟨he8, hq8, _⟩ | ⟨he8, hpt, p1, h1, h2, h3⟩
    · subst he8
      subst hq8
      go_wp2_with (with_reducible change wpList _ _ _ ({ dst := some 65, op := _, type := _, pos := _, after := _, guard := _ } :: _) _ _; refine Hid.out ?_)
      show wpList _ _ _ _ _ _
      refine wpList_load_want rfl 25 (.tmp 9) rfl d9 0 rfl p00.cells _ G4.out.2.2.2.2.range0 Tryz.underlying25 rfl (info25 p00) ?_
      go_wp2_with (with_reducible change wpList _ _ _ ({ dst := some 66, op := _, type := _, pos := _, after := _, guard := _ } :: _) _ _; refine Hid.out ?_)
      show wpList _ _ _ _ _ _
      refine wpList_built_want rfl 25 _ rfl p00.cells.toArray (by rw [← built25b]; first | (simp; done) | (simp; rfl)) ?_
      go_wp2_with fail
      refine (rsame_is U4 p00 p00 (PR.p00 U4) (PR.p00 U4) (by show 0 ≤ _; omega) (by show 0 ≤ _; omega) true (by decide +kernel)).mono ?_
      rintro e U5 ⟨rfl, hb5⟩
      have G5 : Hid (Below w.heap.size w U5) := below_tr G4.out.1 hb5
      clear hb5 G4
      go_wp2_with fail
      refine (HLA.out U5 G5.out).mono ?_
      rintro e V9 ⟨rfl, hb9⟩
      have HF : Hid (Below w.heap.size w V9) := hb9
      clear hb9
      go_wp2
      go_ret
      exact ⟨rfl, HF.out⟩
    · subst he8
      have hcq : chk q8 = 0 := h3.chk.trans h2
      have hlb : l = ptB q8 := by
        have e := pP_some h1 h2
        rw [List.append_nil, ← h3.bytes] at e
        exact e
      have GQ : Hid (PT U4 q8 ∧ chk q8 = 0 ∧ l = ptB q8) := ⟨hpt, hcq, hlb⟩
      clear hpt h1 h2 h3 hcq hlb
      go_wp2_with (with_reducible change wpList _ _ _ ({ dst := some 73, op := _, type := _, pos := _, after := _, guard := _ } :: _) _ _; refine Hid.out ?_)
      show wpList _ _ _ _ _ _
      refine wpList_load_mid rfl 25 (.tmp 9) rfl d9 0 rfl q8.cells _ G4.out.2.2.2.2.range0 Tryz.underlying25 rfl (info25 q8) ?_
      go_wp2_with fail
      refine (encode_is U4 q8 GQ.out.1.pr).mono ?_
      rintro e U5 ⟨(⟨hc, rfl⟩ | ⟨hc, va8, n8, c8, rfl, how, hn⟩), hb5⟩
      · exact absurd GQ.out.2.1 hc
      have hlen := ptB_len GQ.out.1.pr hc
      have hinb : In U5 va8 n8 c8 l := by
        rw [GQ.out.2.2]
        obtain ⟨a', cp, e1, hin, _⟩ := own_in how.out (by omega)
        cases e1
        rw [hn]
        exact hin
      have G5 : Hid (Below w.heap.size w U5 ∧ In U5 a n c l ∧ KS U5 ∧ PT U5 q8 ∧ Blk U5 d9 25 q8.cells ∧ In U5 va8 n8 c8 l) := ⟨below_tr G4.out.1 hb5, G4.out.2.1.below hb5, G4.out.2.2.1.below hb5, GQ.out.1.below hb5, G4.out.2.2.2.2.below hb5 G4.out.2.2.2.2.lt, hinb⟩
      clear hc how hn hb5 hlen hinb G4
      go_wp2_with (with_reducible change wpList _ _ _ ({ dst := some 78, op := _, type := _, pos := _, after := _, guard := _ } :: _) _ _; refine Hid.out ?_)
      show wpList _ _ _ _ _ _
      refine wpList_load_mid rfl 25 (.tmp 9) rfl d9 0 rfl q8.cells _ G5.out.2.2.2.2.1.range0 Tryz.underlying25 rfl (info25 q8) ?_
      obtain ⟨D, hD⟩ : ∃ D, Sha.sum (ptB q8) = D := ⟨_, rfl⟩
      have HD : Hid (D.length = 32) := by show _ = _; rw [← hD]; exact Hsh.sum_length _
      have HDS : Hid (Sha.sum l = D ∧ Sha.sum (ptB q8) = D) := ⟨by rw [GQ.out.2.2]; exact hD, hD⟩
      clear hD
      go_wp2_with fail
      refine (name_ok U5 q8 G5.out.2.2.2.1.pr GQ.out.2.1 G5.out.2.2.1 D HDS.out.2).mono ?_
      rintro e U6 ⟨rfl, hb6⟩
      obtain ⟨Z, hZ37, HZ37⟩ := zero37
      obtain ⟨d13, hd13⟩ : ∃ d, U6.heap.size = d := ⟨_, rfl⟩
      have HZL : Hid (Z.length = 32) := by show _ = _; rw [HZ37.out]; rfl
      have G6 : Hid (Below w.heap.size w U6 ∧ In U6 a n c l ∧ KS U6 ∧ In U6 va8 n8 c8 l) := ⟨below_tr G5.out.1 hb6, G5.out.2.1.below hb6, G5.out.2.2.1.below hb6, G5.out.2.2.2.2.2.below hb6⟩
      clear hb6 G5 HZ37
      go_wp2_with (with_reducible change wpList _ _ _ ({ dst := none, op := Op.store 37 _ _, type := _, pos := _, after := _, guard := _ } :: _) _ _; refine Hid.out ?_)
      show wpList _ _ _ _ _ _
      refine wpList_store_blk rfl 37 (.tmp 13) (.tmp 80) rfl d13 0 37 Z (U D) rfl rfl (by rw [← hd13]; exact Blk.new U6 _ _) (by rw [HZL.out, U_length, HD.out]; omega) (info47 _ HD.out) (U_one _) ?_
      intro U7 hx hgs
      have hb7 : Below U6.heap.size U6 U7 := below_gr (below_al U6 _) hgs.out (by omega)
      have HI : Hid (In U7 a n c l ∧ In U7 va8 n8 c8 l) := ⟨G6.out.2.1.below hb7, G6.out.2.2.2.below hb7⟩
      have HB : Hid (Blk U7 d13 37 (U D)) := blk_all hx.out (by rw [HZL.out, U_length, HD.out])
      have G7 : Hid (Below w.heap.size w U7) := below_tr G6.out.1 hb7
      have HR : Hid (∀ V, Below U7.heap.size U7 V → Calls Tryz.prog 12 #[.slice a n c] V fun e V2 => e = .returned (.agg (U D).toArray) ∧ Below V.heap.size V V2) := fun V hV => (Hsh.refIs l D HDS.out.1 a n c V (toH (HI.out.1.below hV)) (by have := HN.out; omega)).mono fun e V2 h => ⟨h.1, h.2.out⟩
      have HL : Hid (∀ V, Below U7.heap.size U7 V → Calls Tryz.prog 5 #[] V fun e V2 => e = .returned (.bool true) ∧ Below V.heap.size V V2) := fun V _ => lives_is V
      clear hx hgs hb7 hd13 hZ37
      go_wp2_with fail
      refine bk13 HI HB HD HR HL ?_
      intro V1 hV1
      have HF : Hid (Below w.heap.size w V1) := below_tr G7.out hV1
      clear hV1
      go_wp2
      go_ret
      exact ⟨rfl, HF.out⟩
  · have hlen := ptB_len H1.out.2.1 hc
    have hinb : In V2 va nn cc (ptB p) := by
      obtain ⟨a', cp, e1, hin, _⟩ := own_in how.out (by omega)
      cases e1
      rw [hn]
      exact hin
    have H2 : Hid (PR V2 p ∧ Below w.heap.size w V2 ∧ Blk V2 d2 25 p.cells ∧ In V2 a n c l ∧ KS V2 ∧ In V2 va nn cc (ptB p) ∧ chk p = 0) := ⟨H1.out.2.1.below hb2, below_tr H1.out.2.2.1 hb2, H1.out.2.2.2.1.below hb2 H1.out.2.2.2.1.lt, H1.out.2.2.2.2.1.below hb2, H1.out.2.2.2.2.2.below hb2, hinb, hc⟩
    have qnn : (nn : Int) ≤ 140737488355328 := by have := hinb.2.2.1; omega
    clear hlen hinb how hn hb2 hc H1
    go_wp2_with fail
    refine (decode16 va nn cc (ptB p) V2 H2.out.2.2.2.2.2.1).mono ?_
    intro e V3 hdp
    obtain ⟨hb3, q, E, rfl, hda⟩ := hdp.da
    have h0 := pP_encP (A := 16) (P := 64) (T := 200) (by omega) (by omega) (by omega) H2.out.1 H2.out.2.2.2.2.2.2 []
    rw [List.append_nil] at h0
    have htw0 := plP_tw H2.out.1 H2.out.2.2.2.2.2.2
    rcases hda with ⟨_, _, hno⟩ | ⟨rfl, hpt, p1, h1, h2, h3⟩
    · exact absurd (htw0.chk.symm.trans H2.out.2.2.2.2.2.2) (hno _ h0)
    rw [h0] at h1
    simp only [Option.some.injEq, Prod.mk.injEq, and_true] at h1
    subst h1
    obtain ⟨d7, hd7⟩ : ∃ d, V3.heap.size = d := ⟨_, rfl⟩
    have H3 : Hid (PR V3 p ∧ Below w.heap.size w V3 ∧ Blk V3 d2 25 p.cells ∧ In V3 a n c l ∧ KS V3 ∧ PT V3 q ∧ Tw p q ∧ V3.heap.size = d7) := ⟨H2.out.1.below hb3, below_tr H2.out.2.1 hb3, H2.out.2.2.1.below hb3 H2.out.2.2.1.lt, H2.out.2.2.2.1.below hb3, H2.out.2.2.2.2.1.below hb3, hpt, htw0.join h3, hd7⟩
    have HC0 : Hid (chk p = 0) := H2.out.2.2.2.2.2.2
    clear hdp hb3 h0 htw0 h2 h3 hpt H2
    go_wp2_with (with_reducible change wpList _ _ _ ({ dst := none, op := Op.store 25 _ _, type := _, pos := _, after := _, guard := _ } :: _) _ _; refine Hid.out ?_)
    show wpList _ _ _ _ _ _
    refine wpList_store_blk rfl 25 (.tmp 7) (.tmp 34) rfl d7 0 25 p00.cells q.cells rfl rfl (by rw [← hd7]; exact Blk.new V3 _ _) (Nat.le_refl _) (info25 q) (PV.one _) ?_
    intro V4 hx hgs
    have H4 : Hid (PR V4 p ∧ Below w.heap.size w V4 ∧ Blk V4 d2 25 p.cells ∧ In V4 a n c l ∧ KS V4 ∧ PT V4 q ∧ Tw p q ∧ Blk V4 d7 25 q.cells) := by
      have hb : Below V3.heap.size V3 V4 := below_gr (below_al V3 _) hgs.out (by omega)
      exact ⟨H3.out.1.below hb, below_tr H3.out.2.1 hb, H3.out.2.2.1.below hb H3.out.2.2.1.lt, H3.out.2.2.2.1.below hb, H3.out.2.2.2.2.1.below hb, H3.out.2.2.2.2.2.1.below hb, H3.out.2.2.2.2.2.2.1, blk_all hx.out rfl⟩
    clear hx hgs hd7 H3
    go_wp2_with (with_reducible change wpList _ _ _ ({ dst := some 39, op := _, type := _, pos := _, after := _, guard := _ } :: _) _ _; refine Hid.out ?_)
    show wpList _ _ _ _ _ _
    refine wpList_load_want rfl 25 (.tmp 2) rfl d2 0 rfl p.cells _ H4.out.2.2.1.range0 Tryz.underlying25 rfl (info25 p) ?_
    go_wp2_with (with_reducible change wpList _ _ _ ({ dst := some 40, op := _, type := _, pos := _, after := _, guard := _ } :: _) _ _; refine Hid.out ?_)
    show wpList _ _ _ _ _ _
    refine wpList_load_want rfl 25 (.tmp 7) rfl d7 0 rfl q.cells _ H4.out.2.2.2.2.2.2.2.range0 Tryz.underlying25 rfl (info25 q) ?_
    go_wp2_with fail
    refine (rsame_is V4 p q H4.out.1 H4.out.2.2.2.2.2.1.pr (by have := HLT.out.1; omega) (by have := H4.out.2.2.2.2.2.1.zd; omega) true H4.out.2.2.2.2.2.2.1.same).mono ?_
    rintro e V5 ⟨rfl, hb5⟩
    have H5 : Hid (PR V5 p ∧ Below w.heap.size w V5 ∧ Blk V5 d2 25 p.cells ∧ In V5 a n c l ∧ KS V5 ∧ PT V5 q ∧ Tw p q ∧ Blk V5 d7 25 q.cells) := ⟨H4.out.1.below hb5, below_tr H4.out.2.1 hb5, H4.out.2.2.1.below hb5 H4.out.2.2.1.lt, H4.out.2.2.2.1.below hb5, H4.out.2.2.2.2.1.below hb5, H4.out.2.2.2.2.2.1.below hb5, H4.out.2.2.2.2.2.2.1, H4.out.2.2.2.2.2.2.2.below hb5 H4.out.2.2.2.2.2.2.2.lt⟩
    clear hb5 H4
    go_wp2_with (with_reducible change wpList _ _ _ ({ dst := some 45, op := _, type := _, pos := _, after := _, guard := _ } :: _) _ _; refine Hid.out ?_)
    show wpList _ _ _ _ _ _
    refine wpList_load_want rfl 25 (.tmp 2) rfl d2 0 rfl p.cells _ H5.out.2.2.1.range0 Tryz.underlying25 rfl (info25 p) ?_
    go_wp2_with (with_reducible change wpList _ _ _ ({ dst := some 46, op := _, type := _, pos := _, after := _, guard := _ } :: _) _ _; refine Hid.out ?_)
    show wpList _ _ _ _ _ _
    refine wpList_load_want rfl 25 (.tmp 7) rfl d7 0 rfl q.cells _ H5.out.2.2.2.2.2.2.2.range0 Tryz.underlying25 rfl (info25 q) ?_
    go_wp2_with fail
    refine (same_is V5 p q H5.out.1 H5.out.2.2.2.2.2.1.pr true H5.out.2.2.2.2.2.2.1.same).mono ?_
    rintro e V6 ⟨rfl, hb6⟩
    have H6 : Hid (PR V6 p ∧ Below w.heap.size w V6 ∧ Blk V6 d2 25 p.cells ∧ In V6 a n c l ∧ KS V6) := ⟨H5.out.1.below hb6, below_tr H5.out.2.1 hb6, H5.out.2.2.1.below hb6 H5.out.2.2.1.lt, H5.out.2.2.2.1.below hb6, H5.out.2.2.2.2.1.below hb6⟩
    clear hb6 H5
    go_wp2_with (with_reducible change wpList _ _ _ ({ dst := some 51, op := _, type := _, pos := _, after := _, guard := _ } :: _) _ _; refine Hid.out ?_)
    show wpList _ _ _ _ _ _
    refine wpList_load_want rfl 25 (.tmp 2) rfl d2 0 rfl p.cells _ H6.out.2.2.1.range0 Tryz.underlying25 rfl (info25 p) ?_
    go_wp2_with fail
    refine (check_is V6 p H6.out.1 0 HC0.out).mono ?_
    rintro e V7 ⟨rfl, hb7⟩
    have HS : Hid (Below w.heap.size w V7 ∧ In V7 a n c l ∧ KS V7) := ⟨below_tr H6.out.2.1 hb7, H6.out.2.2.2.1.below hb7, H6.out.2.2.2.2.below hb7⟩
    clear hb7 H6
    go_wp2_with fail
    refine (decode16 a n c l V7 HS.out.2.1).mono ?_
    intro e U3 hdp
    obtain ⟨hb3, q8, E8, rfl, hda⟩ := hdp.da
    obtain ⟨d9, hd9⟩ : ∃ d, U3.heap.size = d := ⟨_, rfl⟩
    have G3 : Hid (Below w.heap.size w U3 ∧ In U3 a n c l ∧ KS U3 ∧ DA U3 l q8 E8) := ⟨below_tr HS.out.1 hb3, HS.out.2.1.below hb3, HS.out.2.2.below hb3, hda⟩
    clear hdp hb3 hda
    go_wp2_with (with_reducible change wpList _ _ _ ({ dst := none, op := Op.store 25 _ _, type := _, pos := _, after := _, guard := _ } :: _) _ _; refine Hid.out ?_)
    show wpList _ _ _ _ _ _
    refine wpList_store_blk rfl 25 (.tmp 9) (.tmp 58) rfl d9 0 25 p00.cells q8.cells rfl rfl (by rw [← hd9]; exact Blk.new U3 _ _) (Nat.le_refl _) (info25 q8) (PV.one _) ?_
    intro U4 hx hgs
    have G4 : Hid (Below w.heap.size w U4 ∧ In U4 a n c l ∧ KS U4 ∧ DA U4 l q8 E8 ∧ Blk U4 d9 25 q8.cells) := by
      have hb : Below U3.heap.size U3 U4 := below_gr (below_al U3 _) hgs.out (by omega)
      exact ⟨below_tr G3.out.1 hb, G3.out.2.1.below hb, G3.out.2.2.1.below hb, G3.out.2.2.2.fk (Fk.of_below (S := []) (B := 0) hb (Nat.zero_le _)) (by simp) (by simp) (by simp), blk_all hx.out rfl⟩
    clear hx hgs hd9 G3
    rcases G4.out.2.2.2.1 with ⟨he8, hq8, _⟩ | ⟨he8, hpt, p1, h1, h2, h3⟩
    · subst he8
      subst hq8
      go_wp2_with (with_reducible change wpList _ _ _ ({ dst := some 65, op := _, type := _, pos := _, after := _, guard := _ } :: _) _ _; refine Hid.out ?_)
      show wpList _ _ _ _ _ _
      refine wpList_load_want rfl 25 (.tmp 9) rfl d9 0 rfl p00.cells _ G4.out.2.2.2.2.range0 Tryz.underlying25 rfl (info25 p00) ?_
      go_wp2_with (with_reducible change wpList _ _ _ ({ dst := some 66, op := _, type := _, pos := _, after := _, guard := _ } :: _) _ _; refine Hid.out ?_)
      show wpList _ _ _ _ _ _
      refine wpList_built_want rfl 25 _ rfl p00.cells.toArray (by rw [← built25b]; first | (simp; done) | (simp; rfl)) ?_
      go_wp2_with fail
      refine (rsame_is U4 p00 p00 (PR.p00 U4) (PR.p00 U4) (by show 0 ≤ _; omega) (by show 0 ≤ _; omega) true (by decide +kernel)).mono ?_
      rintro e U5 ⟨rfl, hb5⟩
      have G5 : Hid (Below w.heap.size w U5) := below_tr G4.out.1 hb5
      clear hb5 G4
      go_wp2_with fail
      refine (HLA.out U5 G5.out).mono ?_
      rintro e V9 ⟨rfl, hb9⟩
      have HF : Hid (Below w.heap.size w V9) := hb9
      clear hb9
      go_wp2
      go_ret
      exact ⟨rfl, HF.out⟩
    · subst he8
      have hcq : chk q8 = 0 := h3.chk.trans h2
      have hlb : l = ptB q8 := by
        have e := pP_some h1 h2
        rw [List.append_nil, ← h3.bytes] at e
        exact e
      have GQ : Hid (PT U4 q8 ∧ chk q8 = 0 ∧ l = ptB q8) := ⟨hpt, hcq, hlb⟩
      clear hpt h1 h2 h3 hcq hlb
      go_wp2_with (with_reducible change wpList _ _ _ ({ dst := some 73, op := _, type := _, pos := _, after := _, guard := _ } :: _) _ _; refine Hid.out ?_)
      show wpList _ _ _ _ _ _
      refine wpList_load_mid rfl 25 (.tmp 9) rfl d9 0 rfl q8.cells _ G4.out.2.2.2.2.range0 Tryz.underlying25 rfl (info25 q8) ?_
      go_wp2_with fail
      refine (encode_is U4 q8 GQ.out.1.pr).mono ?_
      rintro e U5 ⟨(⟨hc, rfl⟩ | ⟨hc, va8, n8, c8, rfl, how, hn⟩), hb5⟩
      · exact absurd GQ.out.2.1 hc
      have hlen := ptB_len GQ.out.1.pr hc
      have hinb : In U5 va8 n8 c8 l := by
        rw [GQ.out.2.2]
        obtain ⟨a', cp, e1, hin, _⟩ := own_in how.out (by omega)
        cases e1
        rw [hn]
        exact hin
      have G5 : Hid (Below w.heap.size w U5 ∧ In U5 a n c l ∧ KS U5 ∧ PT U5 q8 ∧ Blk U5 d9 25 q8.cells ∧ In U5 va8 n8 c8 l) := ⟨below_tr G4.out.1 hb5, G4.out.2.1.below hb5, G4.out.2.2.1.below hb5, GQ.out.1.below hb5, G4.out.2.2.2.2.below hb5 G4.out.2.2.2.2.lt, hinb⟩
      clear hc how hn hb5 hlen hinb G4
      go_wp2_with (with_reducible change wpList _ _ _ ({ dst := some 78, op := _, type := _, pos := _, after := _, guard := _ } :: _) _ _; refine Hid.out ?_)
      show wpList _ _ _ _ _ _
      refine wpList_load_mid rfl 25 (.tmp 9) rfl d9 0 rfl q8.cells _ G5.out.2.2.2.2.1.range0 Tryz.underlying25 rfl (info25 q8) ?_
      obtain ⟨D, hD⟩ : ∃ D, Sha.sum (ptB q8) = D := ⟨_, rfl⟩
      have HD : Hid (D.length = 32) := by show _ = _; rw [← hD]; exact Hsh.sum_length _
      have HDS : Hid (Sha.sum l = D ∧ Sha.sum (ptB q8) = D) := ⟨by rw [GQ.out.2.2]; exact hD, hD⟩
      clear hD
      go_wp2_with fail
      refine (name_ok U5 q8 G5.out.2.2.2.1.pr GQ.out.2.1 G5.out.2.2.1 D HDS.out.2).mono ?_
      rintro e U6 ⟨rfl, hb6⟩
      obtain ⟨Z, hZ37, HZ37⟩ := zero37
      obtain ⟨d13, hd13⟩ : ∃ d, U6.heap.size = d := ⟨_, rfl⟩
      have HZL : Hid (Z.length = 32) := by show _ = _; rw [HZ37.out]; rfl
      have G6 : Hid (Below w.heap.size w U6 ∧ In U6 a n c l ∧ KS U6 ∧ In U6 va8 n8 c8 l) := ⟨below_tr G5.out.1 hb6, G5.out.2.1.below hb6, G5.out.2.2.1.below hb6, G5.out.2.2.2.2.2.below hb6⟩
      clear hb6 G5 HZ37
      go_wp2_with (with_reducible change wpList _ _ _ ({ dst := none, op := Op.store 37 _ _, type := _, pos := _, after := _, guard := _ } :: _) _ _; refine Hid.out ?_)
      show wpList _ _ _ _ _ _
      refine wpList_store_blk rfl 37 (.tmp 13) (.tmp 80) rfl d13 0 37 Z (U D) rfl rfl (by rw [← hd13]; exact Blk.new U6 _ _) (by rw [HZL.out, U_length, HD.out]; omega) (info47 _ HD.out) (U_one _) ?_
      intro U7 hx hgs
      have hb7 : Below U6.heap.size U6 U7 := below_gr (below_al U6 _) hgs.out (by omega)
      have HI : Hid (In U7 a n c l ∧ In U7 va8 n8 c8 l) := ⟨G6.out.2.1.below hb7, G6.out.2.2.2.below hb7⟩
      have HB : Hid (Blk U7 d13 37 (U D)) := blk_all hx.out (by rw [HZL.out, U_length, HD.out])
      have G7 : Hid (Below w.heap.size w U7) := below_tr G6.out.1 hb7
      have HR : Hid (∀ V, Below U7.heap.size U7 V → Calls Tryz.prog 12 #[.slice a n c] V fun e V2 => e = .returned (.agg (U D).toArray) ∧ Below V.heap.size V V2) := fun V hV => (Hsh.refIs l D HDS.out.1 a n c V (toH (HI.out.1.below hV)) (by have := HN.out; omega)).mono fun e V2 h => ⟨h.1, h.2.out⟩
      have HL : Hid (∀ V, Below U7.heap.size U7 V → Calls Tryz.prog 5 #[] V fun e V2 => e = .returned (.bool true) ∧ Below V.heap.size V V2) := fun V _ => lives_is V
      clear hx hgs hb7 hd13 hZ37
      go_wp2_with fail
      refine bk13 HI HB HD HR HL ?_
      intro V1 hV1
      have HF : Hid (Below w.heap.size w V1) := below_tr G7.out hV1
      clear hV1
      go_wp2
      go_ret
      exact ⟨rfl, HF.out⟩
end Go.Proofs.YtgdecjacbkicmaaGreatDoor.Oct
