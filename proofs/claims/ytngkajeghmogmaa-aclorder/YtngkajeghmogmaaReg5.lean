/-
  Layer 17 (acl): AclOrder: its drawn region.
-/
import Derived.Test.YtngkajeghmogmaaReg2
namespace Go.Proofs.Ytngkajeghmogmaa.Oct
open Go.RowKit Go.Shelf
set_option linter.unusedSimpArgs false
set_option linter.unusedVariables false

theorem below_dr {Z A : World} (h : Below Z.heap.size Z A) : Below Z.heap.size Z A.drew := ⟨h.os, h.tape, h.output, h.size, h.block⟩
theorem rus_bs {w : World} {B : Nat} {a : Option Addr} {n c : Nat} {l : List Ru} (h : Bs 31 5 B w (.slice a n c) n (flat l)) (hs : ∀ r ∈ l, r.short) : RuS w a n l := by
  obtain ⟨a', c', hv, _, hrd, _⟩ := h.read
  cases hv
  exact RuS.of hrd hs
set_option maxRecDepth 100000 in
set_option maxHeartbeats 4000000 in
theorem order_dec {Q : Exit → Act → World → Prop} {x1 x2 x3 x4 x6 x9 x10 x11 x12 x13 x14 x15 x16 x17 x18 x19 x20 x21 x22 x23 x24 x25 x26 x27 x28 x29 x30 x31 x32 x33 x34 x35 x36 x37 x38 x39 x40 x41 x42 x43 x44 x45 x46 x47 x48 x49 x50 x51 x52 x53 x54 x55 x56 x57 x58 x59 x60 x61 x62 x63 x64 x65 x66 x67 x68 x69 : Value} {ds : List Deferred} {A : World} {Z : World} {g5 n cp cm Bm kk b off : Nat} {am : Option Addr} {r : Ru} {k : Ak} {l ml : List Ru}
    (HZ : Hid (Below Z.heap.size Z A)) (HN : Hid (n ≤ 2199023255551)) (HN1 : Hid (n + 1 ≤ 2199023255551)) (HA : Hid (Blk Z g5 27 [.string k.s.user, .slice k.s.ta k.s.tn k.s.tc, iv k.s.role, .string k.ch, .string k.path, iv k.right])) (HK : Hid (k.at Z)) (HRU : Hid (RuS Z (some ⟨b, off, none⟩) n l)) (HRR : Hid (Z.rangeAt b (off + kk * 5) r.cells ∧ b < Z.heap.size)) (HQ : Hid ((kk : Int) < (n : Int))) (HBM : Hid (Bs 31 5 Bm A (.slice am n cm) n (flat ml))) (HBZ : Hid (Bm ≤ A.heap.size)) (HZB : Hid (Z.heap.size ≤ Bm)) (HSL : Hid (∀ q ∈ ml, q.short)) (HSM : Hid (∀ q ∈ ml ++ [r], q.short)) (HE1 : Hid (dec ml k = dec l k)) (HE2 : Hid (dec (ml ++ [r]) k = dec l k))
    (hQ : ∀ V (q2 : Nat) (a2 : Option Addr) (c2 : Nat), Below Z.heap.size Z V → Q .normal { tmps := #[.slice (some ⟨b, off, none⟩) n cp, x1, x2, x3, x4, .pointer (some ⟨g5, 0, none⟩), .bool true, .slice am n cm, iv (kk : Nat), x9, x10, x11, x12, x13, x14, x15, x16, x17, x18, x19, x20, x21, x22, x23, x24, x25, x26, x27, x28, x29, x30, x31, x32, x33, x34, x35, x36, x37, x38, x39, x40, x41, x42, x43, x44, .slice (some ⟨b, off, none⟩) n cp, .agg #[.string k.s.user, .slice k.s.ta k.s.tn k.s.tc, iv k.s.role, .string k.ch, .string k.path, iv k.right], .bool (dec l k), .slice am n cm, .agg #[.string k.s.user, .slice k.s.ta k.s.tn k.s.tc, iv k.s.role, .string k.ch, .string k.path, iv k.right], .bool (dec l k), .bool true, .bool true, .slice (some ⟨b, off, none⟩) n cp, .agg #[.string k.s.user, .slice k.s.ta k.s.tn k.s.tc, iv k.s.role, .string k.ch, .string k.path, iv k.right], .bool (dec l k), .slice am n cm, .slice (some ⟨b, off, none⟩) n cp, iv (kk : Nat), .pointer (some ⟨b, off + kk * 5, none⟩), .agg #[.string r.who, .string r.ch, .string r.pre, iv r.right, .bool r.deny], .slice (some ⟨q2, 0, none⟩) 1 1, .slice a2 (n + 1) c2, .agg #[.string k.s.user, .slice k.s.ta k.s.tn k.s.tc, iv k.s.role, .string k.ch, .string k.path, iv k.right], .bool (dec l k), .bool true, .bool true, .bool true, .bool true, .bool true], defers := ds } V) :
    (Code.region 10 #[{ dst := some 45, op := Op.move (Operand.tmp 0), type := 22, pos := "law.go:81", after := #[], guard := none }, { dst := some 46, op := Op.load 27 (Operand.tmp 5), type := 27, pos := "law.go:81", after := #[], guard := none }, { dst := some 47, op := Op.call { callee := Callee.value (Operand.func 15), args := #[Operand.tmp 45, Operand.tmp 46], argTypes := #[22, 27] }, type := 4, pos := "law.go:81", after := #[{ on := 0, ground := Ground.data }, { on := 1, ground := Ground.data }], guard := none }, { dst := some 48, op := Op.move (Operand.tmp 7), type := 22, pos := "law.go:81", after := #[], guard := none }, { dst := some 49, op := Op.load 27 (Operand.tmp 5), type := 27, pos := "law.go:81", after := #[], guard := none }, { dst := some 50, op := Op.call { callee := Callee.value (Operand.func 15), args := #[Operand.tmp 48, Operand.tmp 49], argTypes := #[22, 27] }, type := 4, pos := "law.go:81", after := #[{ on := 3, ground := Ground.data }, { on := 4, ground := Ground.data }, { on := 2, ground := Ground.chain }], guard := none }, { dst := some 51, op := Op.binOp BinOp.eql 4 (Operand.tmp 47) (Operand.tmp 50) 4, type := 4, pos := "law.go:81", after := #[{ on := 2, ground := Ground.data }, { on := 5, ground := Ground.data }], guard := none }, { dst := some 52, op := Op.move (Operand.tmp 51), type := 4, pos := "law.go:81", after := #[{ on := 6, ground := Ground.data }, { on := 5, ground := Ground.chain }], guard := none }, { dst := some 53, op := Op.move (Operand.tmp 0), type := 22, pos := "law.go:81", after := #[{ on := 7, ground := Ground.guard }], guard := some (7, true) }, { dst := some 54, op := Op.load 27 (Operand.tmp 5), type := 27, pos := "law.go:81", after := #[{ on := 7, ground := Ground.guard }], guard := some (7, true) }, { dst := some 55, op := Op.call { callee := Callee.value (Operand.func 15), args := #[Operand.tmp 53, Operand.tmp 54], argTypes := #[22, 27] }, type := 4, pos := "law.go:81", after := #[{ on := 8, ground := Ground.data }, { on := 9, ground := Ground.data }, { on := 7, ground := Ground.chain }, { on := 7, ground := Ground.guard }], guard := some (7, true) }, { dst := some 56, op := Op.move (Operand.tmp 7), type := 22, pos := "law.go:81", after := #[{ on := 7, ground := Ground.guard }], guard := some (7, true) }, { dst := some 57, op := Op.move (Operand.tmp 0), type := 22, pos := "law.go:81", after := #[{ on := 7, ground := Ground.guard }], guard := some (7, true) }, { dst := some 58, op := Op.move (Operand.tmp 8), type := 3, pos := "law.go:81", after := #[{ on := 7, ground := Ground.guard }], guard := some (7, true) }, { dst := some 59, op := Op.indexAddr 22 (Operand.tmp 57) (Operand.tmp 58), type := 0, pos := "law.go:81", after := #[{ on := 12, ground := Ground.data }, { on := 13, ground := Ground.data }, { on := 7, ground := Ground.guard }], guard := some (7, true) }, { dst := some 60, op := Op.load 31 (Operand.tmp 59), type := 31, pos := "law.go:81", after := #[{ on := 14, ground := Ground.data }, { on := 7, ground := Ground.guard }], guard := some (7, true) }, { dst := some 61, op := Op.buildSlice 22 1 #[(0, Operand.tmp 60)], type := 22, pos := "law.go:81", after := #[{ on := 15, ground := Ground.data }, { on := 7, ground := Ground.guard }], guard := some (7, true) }, { dst := some 62, op := Op.call { callee := Callee.builtin Builtin.append, args := #[Operand.tmp 56, Operand.tmp 61], argTypes := #[22, 22] }, type := 22, pos := "law.go:81", after := #[{ on := 11, ground := Ground.data }, { on := 16, ground := Ground.data }, { on := 10, ground := Ground.chain }, { on := 7, ground := Ground.guard }], guard := some (7, true) }, { dst := some 63, op := Op.load 27 (Operand.tmp 5), type := 27, pos := "law.go:81", after := #[{ on := 7, ground := Ground.guard }], guard := some (7, true) }, { dst := some 64, op := Op.call { callee := Callee.value (Operand.func 15), args := #[Operand.tmp 62, Operand.tmp 63], argTypes := #[22, 27] }, type := 4, pos := "law.go:81", after := #[{ on := 17, ground := Ground.data }, { on := 18, ground := Ground.data }, { on := 17, ground := Ground.chain }, { on := 7, ground := Ground.guard }], guard := some (7, true) }, { dst := some 65, op := Op.binOp BinOp.eql 4 (Operand.tmp 55) (Operand.tmp 64) 4, type := 4, pos := "law.go:81", after := #[{ on := 10, ground := Ground.data }, { on := 19, ground := Ground.data }, { on := 7, ground := Ground.guard }], guard := some (7, true) }, { dst := some 66, op := Op.pick (Operand.tmp 52) (Operand.tmp 65) (Operand.const (Value.bool false)), type := 4, pos := "law.go:81", after := #[{ on := 7, ground := Ground.data }, { on := 20, ground := Ground.data }], guard := none }, { dst := some 67, op := Op.move (Operand.tmp 66), type := 4, pos := "law.go:81", after := #[{ on := 21, ground := Ground.data }, { on := 19, ground := Ground.chain }], guard := none }, { dst := some 68, op := Op.call { callee := Callee.value (Operand.func 10), args := #[], argTypes := #[] }, type := 4, pos := "law.go:81", after := #[{ on := 22, ground := Ground.chain }, { on := 22, ground := Ground.guard }], guard := some (22, true) }, { dst := some 69, op := Op.pick (Operand.tmp 67) (Operand.tmp 68) (Operand.const (Value.bool false)), type := 4, pos := "law.go:81", after := #[{ on := 22, ground := Ground.data }, { on := 23, ground := Ground.data }], guard := none }, { dst := some 6, op := Op.assign (Operand.tmp 69), type := 4, pos := "law.go:81", after := #[{ on := 24, ground := Ground.data }, { on := 23, ground := Ground.chain }, { on := 0, ground := Ground.phase }, { on := 1, ground := Ground.phase }, { on := 2, ground := Ground.phase }, { on := 3, ground := Ground.phase }, { on := 4, ground := Ground.phase }, { on := 5, ground := Ground.phase }, { on := 6, ground := Ground.phase }, { on := 7, ground := Ground.phase }, { on := 8, ground := Ground.phase }, { on := 9, ground := Ground.phase }, { on := 10, ground := Ground.phase }, { on := 11, ground := Ground.phase }, { on := 12, ground := Ground.phase }, { on := 13, ground := Ground.phase }, { on := 14, ground := Ground.phase }, { on := 15, ground := Ground.phase }, { on := 16, ground := Ground.phase }, { on := 17, ground := Ground.phase }, { on := 18, ground := Ground.phase }, { on := 19, ground := Ground.phase }, { on := 20, ground := Ground.phase }, { on := 21, ground := Ground.phase }, { on := 22, ground := Ground.phase }, { on := 23, ground := Ground.phase }, { on := 24, ground := Ground.phase }], guard := none }] true).wp Try.prog Q { tmps := #[.slice (some ⟨b, off, none⟩) n cp, x1, x2, x3, x4, .pointer (some ⟨g5, 0, none⟩), x6, .slice am n cm, iv (kk : Nat), x9, x10, x11, x12, x13, x14, x15, x16, x17, x18, x19, x20, x21, x22, x23, x24, x25, x26, x27, x28, x29, x30, x31, x32, x33, x34, x35, x36, x37, x38, x39, x40, x41, x42, x43, x44, x45, x46, x47, x48, x49, x50, x51, x52, x53, x54, x55, x56, x57, x58, x59, x60, x61, x62, x63, x64, x65, x66, x67, x68, x69], defers := ds } A := by
  refine Code.wp_mono (Q := fun x a' w' => match x with | .normal => Q .normal a' w' | _ => False) (by intro x a' w' h; cases x <;> first | exact h | exact h.elim) ?_
  refine wp_region_held (S := fun V => Below Z.heap.size Z V) (by kernel_rfl) ?_
  have hS0 : Hid (Below Z.heap.size Z A.drew) := below_dr HZ.out
  change wpAnyH Try.prog .any _ _ (fun V => Below Z.heap.size Z V) 26 (Array.replicate 26 false) _ A.drew
  obtain ⟨V0, hV0⟩ : ∃ V0, A.drew = V0 := ⟨_, rfl⟩
  rw [hV0]
  rw [hV0] at hS0
  obtain ⟨i0, hi0, hz0, hz1, hz2⟩ := info31
  have HI0 : Hid (Try.prog.info? 31 = some i0 ∧ i0.zero = some (.agg #[.string ⟨#[]⟩, .string ⟨#[]⟩, .string ⟨#[]⟩, .int .i64 0, .bool false]) ∧ i0.size = 5 ∧ i0.bytes ≤ 64) := ⟨hi0, hz0, hz1, hz2⟩
  clear hi0 hz0 hz1 hz2
  have BS0 : Hid (Bs 31 5 Bm V0 (.slice am n cm) n (flat ml)) := by rw [← hV0]; exact HBM.out
  have BZ0 : Hid (Bm ≤ V0.heap.size) := by rw [← hV0]; exact HBZ.out
  clear hV0
  refine wpAnyH_take (i := 0) (oi := { dst := some 45, op := Op.move (Operand.tmp 0), type := 22, pos := "law.go:81", after := #[], guard := none }) (v := .slice (some ⟨b, off, none⟩) n cp) rfl (by kernel_rfl) (by kernel_rfl) (by kernel_rfl) (fun _ _ _ h => h.elim) (Or.inl ⟨by rfl, ?y1⟩) hS0.out ?_
  case y1 =>
    intro V hV
    go_simp
  simp only [Act.put, List.setIfInBounds_toArray, List.set_cons_zero, List.set_cons_succ]
  refine wpAnyH_take (i := 1) (oi := { dst := some 46, op := Op.load 27 (Operand.tmp 5), type := 27, pos := "law.go:81", after := #[], guard := none }) (v := .agg #[.string k.s.user, .slice k.s.ta k.s.tn k.s.tc, iv k.s.role, .string k.ch, .string k.path, iv k.right]) rfl (by kernel_rfl) (by kernel_rfl) (by kernel_rfl) (fun _ _ _ h => h.elim) (yieldsIf_load_mid (by rfl) _ _ rfl _ _ rfl ([.string k.s.user, .slice k.s.ta k.s.tn k.s.tc, iv k.s.role, .string k.ch, .string k.path, iv k.right]) _ (fun V hV => rangeAt_same (HA.out.range 0 6) ((show Below Z.heap.size Z V from hV).block _ (HA.out.lt))) Try.underlying27 rfl (size27)) hS0.out ?_
  simp only [Act.put, List.setIfInBounds_toArray, List.set_cons_zero, List.set_cons_succ]
  refine wpAnyH_take (i := 3) (oi := { dst := some 48, op := Op.move (Operand.tmp 7), type := 22, pos := "law.go:81", after := #[], guard := none }) (v := .slice am n cm) rfl (by kernel_rfl) (by kernel_rfl) (by kernel_rfl) (fun _ _ _ h => h.elim) (Or.inl ⟨by rfl, ?y2⟩) hS0.out ?_
  case y2 =>
    intro V hV
    go_simp
  simp only [Act.put, List.setIfInBounds_toArray, List.set_cons_zero, List.set_cons_succ]
  refine wpAnyH_take (i := 4) (oi := { dst := some 49, op := Op.load 27 (Operand.tmp 5), type := 27, pos := "law.go:81", after := #[], guard := none }) (v := .agg #[.string k.s.user, .slice k.s.ta k.s.tn k.s.tc, iv k.s.role, .string k.ch, .string k.path, iv k.right]) rfl (by kernel_rfl) (by kernel_rfl) (by kernel_rfl) (fun _ _ _ h => h.elim) (yieldsIf_load_mid (by rfl) _ _ rfl _ _ rfl ([.string k.s.user, .slice k.s.ta k.s.tn k.s.tc, iv k.s.role, .string k.ch, .string k.path, iv k.right]) _ (fun V hV => rangeAt_same (HA.out.range 0 6) ((show Below Z.heap.size Z V from hV).block _ (HA.out.lt))) Try.underlying27 rfl (size27)) hS0.out ?_
  simp only [Act.put, List.setIfInBounds_toArray, List.set_cons_zero, List.set_cons_succ]
  refine wpAnyH_ready (rs := [2]) (by kernel_rfl) (by simp) (AllReadyH.cons (i := 2) (o := { dst := some 47, op := Op.call { callee := Callee.value (Operand.func 15), args := #[Operand.tmp 45, Operand.tmp 46], argTypes := #[22, 27] }, type := 4, pos := "law.go:81", after := #[{ on := 0, ground := Ground.data }, { on := 1, ground := Ground.data }], guard := none }) rfl ?_ AllReadyH.nil)
  · intro K1 hK1
    rw [if_pos (by rfl)]
    have HC1 := dec_is l (some ⟨b, off, none⟩) n cp k V0 (HRU.out.below hS0.out) HN.out (HK.out.below hS0.out)
    go_wp2_with fail
    refine HC1.mono ?_
    rintro e V1 ⟨rfl, hb1⟩
    dsimp only
    clear HC1
    have hS1 : Hid (Below Z.heap.size Z V1) := hS0.out.trans (hb1.mono hS0.out.size)
    have BS1 : Hid (Bs 31 5 Bm V1 (.slice am n cm) n (flat ml)) := bs_below BS0.out hb1
    have BZ1 : Hid (Bm ≤ V1.heap.size) := Nat.le_trans BZ0.out hb1.size
    clear hb1
    refine hK1.out _ _ hS1.out ?_
    clear hK1
    intro _
    try simp only [Act.put, List.setIfInBounds_toArray, List.set_cons_zero, List.set_cons_succ]
    refine wpAnyH_ready (rs := [5]) (by kernel_rfl) (by simp) (AllReadyH.cons (i := 5) (o := { dst := some 50, op := Op.call { callee := Callee.value (Operand.func 15), args := #[Operand.tmp 48, Operand.tmp 49], argTypes := #[22, 27] }, type := 4, pos := "law.go:81", after := #[{ on := 3, ground := Ground.data }, { on := 4, ground := Ground.data }, { on := 2, ground := Ground.chain }], guard := none }) rfl ?_ AllReadyH.nil)
    · intro K1 hK1
      rw [if_pos (by rfl)]
      have HC2 := (dec_eq HE1.out (dec_is ml am n cm k V1 (rus_bs BS1.out HSL.out) HN.out (HK.out.below hS1.out)))
      go_wp2_with fail
      refine HC2.mono ?_
      rintro e V2 ⟨rfl, hb2⟩
      dsimp only
      clear HC2
      have hS2 : Hid (Below Z.heap.size Z V2) := hS1.out.trans (hb2.mono hS1.out.size)
      have BS2 : Hid (Bs 31 5 Bm V2 (.slice am n cm) n (flat ml)) := bs_below BS1.out hb2
      have BZ2 : Hid (Bm ≤ V2.heap.size) := Nat.le_trans BZ1.out hb2.size
      clear hb2
      refine hK1.out _ _ hS2.out ?_
      clear hK1
      intro _
      try simp only [Act.put, List.setIfInBounds_toArray, List.set_cons_zero, List.set_cons_succ]
      refine wpAnyH_take (i := 6) (oi := { dst := some 51, op := Op.binOp BinOp.eql 4 (Operand.tmp 47) (Operand.tmp 50) 4, type := 4, pos := "law.go:81", after := #[{ on := 2, ground := Ground.data }, { on := 5, ground := Ground.data }], guard := none }) (v := .bool true) rfl (by kernel_rfl) (by kernel_rfl) (by kernel_rfl) (fun _ _ _ h => h.elim) (Or.inl ⟨by rfl, ?y3⟩) hS2.out ?_
      case y3 =>
        intro V hV
        go_simp
      simp only [Act.put, List.setIfInBounds_toArray, List.set_cons_zero, List.set_cons_succ]
      refine wpAnyH_take (i := 7) (oi := { dst := some 52, op := Op.move (Operand.tmp 51), type := 4, pos := "law.go:81", after := #[{ on := 6, ground := Ground.data }, { on := 5, ground := Ground.chain }], guard := none }) (v := .bool true) rfl (by kernel_rfl) (by kernel_rfl) (by kernel_rfl) (fun _ _ _ h => h.elim) (Or.inl ⟨by rfl, ?y4⟩) hS2.out ?_
      case y4 =>
        intro V hV
        go_simp
      simp only [Act.put, List.setIfInBounds_toArray, List.set_cons_zero, List.set_cons_succ]
      refine wpAnyH_take (i := 8) (oi := { dst := some 53, op := Op.move (Operand.tmp 0), type := 22, pos := "law.go:81", after := #[{ on := 7, ground := Ground.guard }], guard := some (7, true) }) (v := .slice (some ⟨b, off, none⟩) n cp) rfl (by kernel_rfl) (by kernel_rfl) (by kernel_rfl) (fun _ _ _ h => h.elim) (Or.inl ⟨by rfl, ?y5⟩) hS2.out ?_
      case y5 =>
        intro V hV
        go_simp
      simp only [Act.put, List.setIfInBounds_toArray, List.set_cons_zero, List.set_cons_succ]
      refine wpAnyH_take (i := 9) (oi := { dst := some 54, op := Op.load 27 (Operand.tmp 5), type := 27, pos := "law.go:81", after := #[{ on := 7, ground := Ground.guard }], guard := some (7, true) }) (v := .agg #[.string k.s.user, .slice k.s.ta k.s.tn k.s.tc, iv k.s.role, .string k.ch, .string k.path, iv k.right]) rfl (by kernel_rfl) (by kernel_rfl) (by kernel_rfl) (fun _ _ _ h => h.elim) (yieldsIf_load_mid (by rfl) _ _ rfl _ _ rfl ([.string k.s.user, .slice k.s.ta k.s.tn k.s.tc, iv k.s.role, .string k.ch, .string k.path, iv k.right]) _ (fun V hV => rangeAt_same (HA.out.range 0 6) ((show Below Z.heap.size Z V from hV).block _ (HA.out.lt))) Try.underlying27 rfl (size27)) hS2.out ?_
      simp only [Act.put, List.setIfInBounds_toArray, List.set_cons_zero, List.set_cons_succ]
      refine wpAnyH_take (i := 11) (oi := { dst := some 56, op := Op.move (Operand.tmp 7), type := 22, pos := "law.go:81", after := #[{ on := 7, ground := Ground.guard }], guard := some (7, true) }) (v := .slice am n cm) rfl (by kernel_rfl) (by kernel_rfl) (by kernel_rfl) (fun _ _ _ h => h.elim) (Or.inl ⟨by rfl, ?y6⟩) hS2.out ?_
      case y6 =>
        intro V hV
        go_simp
      simp only [Act.put, List.setIfInBounds_toArray, List.set_cons_zero, List.set_cons_succ]
      refine wpAnyH_take (i := 12) (oi := { dst := some 57, op := Op.move (Operand.tmp 0), type := 22, pos := "law.go:81", after := #[{ on := 7, ground := Ground.guard }], guard := some (7, true) }) (v := .slice (some ⟨b, off, none⟩) n cp) rfl (by kernel_rfl) (by kernel_rfl) (by kernel_rfl) (fun _ _ _ h => h.elim) (Or.inl ⟨by rfl, ?y7⟩) hS2.out ?_
      case y7 =>
        intro V hV
        go_simp
      simp only [Act.put, List.setIfInBounds_toArray, List.set_cons_zero, List.set_cons_succ]
      refine wpAnyH_take (i := 13) (oi := { dst := some 58, op := Op.move (Operand.tmp 8), type := 3, pos := "law.go:81", after := #[{ on := 7, ground := Ground.guard }], guard := some (7, true) }) (v := iv (kk : Nat)) rfl (by kernel_rfl) (by kernel_rfl) (by kernel_rfl) (fun _ _ _ h => h.elim) (Or.inl ⟨by rfl, ?y8⟩) hS2.out ?_
      case y8 =>
        intro V hV
        go_simp
      simp only [Act.put, List.setIfInBounds_toArray, List.set_cons_zero, List.set_cons_succ]
      refine wpAnyH_take (i := 14) (oi := { dst := some 59, op := Op.indexAddr 22 (Operand.tmp 57) (Operand.tmp 58), type := 0, pos := "law.go:81", after := #[{ on := 12, ground := Ground.data }, { on := 13, ground := Ground.data }, { on := 7, ground := Ground.guard }], guard := some (7, true) }) (v := .pointer (some ⟨b, off + kk * 5, none⟩)) rfl (by kernel_rfl) (by kernel_rfl) (by kernel_rfl) (fun _ _ _ h => h.elim) (Or.inl ⟨by rfl, ?y9⟩) hS2.out ?_
      case y9 =>
        intro V hV
        have q1 := HQ.out
        go_simp
      simp only [Act.put, List.setIfInBounds_toArray, List.set_cons_zero, List.set_cons_succ]
      refine wpAnyH_take (i := 15) (oi := { dst := some 60, op := Op.load 31 (Operand.tmp 59), type := 31, pos := "law.go:81", after := #[{ on := 14, ground := Ground.data }, { on := 7, ground := Ground.guard }], guard := some (7, true) }) (v := .agg #[.string r.who, .string r.ch, .string r.pre, iv r.right, .bool r.deny]) rfl (by kernel_rfl) (by kernel_rfl) (by kernel_rfl) (fun _ _ _ h => h.elim) (yieldsIf_load_mid (by rfl) _ _ rfl _ _ rfl ([.string r.who, .string r.ch, .string r.pre, iv r.right, .bool r.deny]) _ (fun V hV => rangeAt_same (HRR.out.1) ((show Below Z.heap.size Z V from hV).block _ (HRR.out.2))) Try.underlying31 rfl (size31)) hS2.out ?_
      simp only [Act.put, List.setIfInBounds_toArray, List.set_cons_zero, List.set_cons_succ]
      refine wpAnyH_take (i := 18) (oi := { dst := some 63, op := Op.load 27 (Operand.tmp 5), type := 27, pos := "law.go:81", after := #[{ on := 7, ground := Ground.guard }], guard := some (7, true) }) (v := .agg #[.string k.s.user, .slice k.s.ta k.s.tn k.s.tc, iv k.s.role, .string k.ch, .string k.path, iv k.right]) rfl (by kernel_rfl) (by kernel_rfl) (by kernel_rfl) (fun _ _ _ h => h.elim) (yieldsIf_load_mid (by rfl) _ _ rfl _ _ rfl ([.string k.s.user, .slice k.s.ta k.s.tn k.s.tc, iv k.s.role, .string k.ch, .string k.path, iv k.right]) _ (fun V hV => rangeAt_same (HA.out.range 0 6) ((show Below Z.heap.size Z V from hV).block _ (HA.out.lt))) Try.underlying27 rfl (size27)) hS2.out ?_
      simp only [Act.put, List.setIfInBounds_toArray, List.set_cons_zero, List.set_cons_succ]
      refine wpAnyH_ready (rs := [10, 16]) (by kernel_rfl) (by simp) (AllReadyH.cons (i := 10) (o := { dst := some 55, op := Op.call { callee := Callee.value (Operand.func 15), args := #[Operand.tmp 53, Operand.tmp 54], argTypes := #[22, 27] }, type := 4, pos := "law.go:81", after := #[{ on := 8, ground := Ground.data }, { on := 9, ground := Ground.data }, { on := 7, ground := Ground.chain }, { on := 7, ground := Ground.guard }], guard := some (7, true) }) rfl ?_ (AllReadyH.cons (i := 16) (o := { dst := some 61, op := Op.buildSlice 22 1 #[(0, Operand.tmp 60)], type := 22, pos := "law.go:81", after := #[{ on := 15, ground := Ground.data }, { on := 7, ground := Ground.guard }], guard := some (7, true) }) rfl ?_ AllReadyH.nil))
      · intro K1 hK1
        rw [if_pos (by rfl)]
        have HC3 := dec_is l (some ⟨b, off, none⟩) n cp k V2 (HRU.out.below hS2.out) HN.out (HK.out.below hS2.out)
        go_wp2_with fail
        refine HC3.mono ?_
        rintro e V3 ⟨rfl, hb3⟩
        dsimp only
        clear HC3
        have hS3 : Hid (Below Z.heap.size Z V3) := hS2.out.trans (hb3.mono hS2.out.size)
        have BS3 : Hid (Bs 31 5 Bm V3 (.slice am n cm) n (flat ml)) := bs_below BS2.out hb3
        have BZ3 : Hid (Bm ≤ V3.heap.size) := Nat.le_trans BZ2.out hb3.size
        clear hb3
        refine hK1.out _ _ hS3.out ?_
        clear hK1
        intro _
        try simp only [Act.put, List.setIfInBounds_toArray, List.set_cons_zero, List.set_cons_succ]
        refine wpAnyH_ready (rs := [16]) (by kernel_rfl) (by simp) (AllReadyH.cons (i := 16) (o := { dst := some 61, op := Op.buildSlice 22 1 #[(0, Operand.tmp 60)], type := 22, pos := "law.go:81", after := #[{ on := 15, ground := Ground.data }, { on := 7, ground := Ground.guard }], guard := some (7, true) }) rfl ?_ AllReadyH.nil)
        · intro K1 hK1
          rw [if_pos (by rfl)]
          obtain ⟨V4, hv4⟩ : ∃ V, V3.alloc (.cells #[.string r.who, .string r.ch, .string r.pre, iv r.right, .bool r.deny] 31) = V := ⟨_, rfl⟩
          obtain ⟨q4, hq4⟩ : ∃ q, V3.heap.size = q := ⟨_, rfl⟩
          have hb4 : Hid (Below V3.heap.size V3 V4) := by rw [← hv4]; exact below_al _ _
          have hS4 : Hid (Below Z.heap.size Z V4) := hS3.out.trans (hb4.out.mono hS3.out.size)
          have BS4 : Hid (Bs 31 5 Bm V4 (.slice am n cm) n (flat ml)) := bs_below BS3.out hb4.out
          have BZ4 : Hid (Bm ≤ V4.heap.size) := Nat.le_trans BZ3.out hb4.out.size
          have RD4 : Hid (Rd V4 31 5 (some ⟨q4, 0, none⟩) 1 (flat [r])) := by rw [← hv4, ← hq4]; exact rd_one _ r
          go_wp2
          clear hv4 hq4 hb4
          refine hK1.out _ _ hS4.out ?_
          clear hK1
          intro _
          try simp only [Act.put, List.setIfInBounds_toArray, List.set_cons_zero, List.set_cons_succ]
          refine wpAnyH_ready (rs := [17]) (by kernel_rfl) (by simp) (AllReadyH.cons (i := 17) (o := { dst := some 62, op := Op.call { callee := Callee.builtin Builtin.append, args := #[Operand.tmp 56, Operand.tmp 61], argTypes := #[22, 22] }, type := 22, pos := "law.go:81", after := #[{ on := 11, ground := Ground.data }, { on := 16, ground := Ground.data }, { on := 10, ground := Ground.chain }, { on := 7, ground := Ground.guard }], guard := some (7, true) }) rfl ?_ AllReadyH.nil)
          · intro K1 hK1
            refine step_append_bs (by rfl) 62 rfl (.tmp 56) (.tmp 61) 22 rfl V4 31 i0 _ 5 Bm Try.underlying22 HI0.out.1 HI0.out.2.1 HI0.out.2.2.1 HI0.out.2.2.2 rfl (by omega) (.slice am n cm) n (flat ml) BS4.out (some ⟨q4, 0, none⟩) 1 1 (flat [r]) rfl rfl RD4.out BZ4.out (by have := HN1.out; omega) ?_
            intro v5 V5 hb5 hw5
            have hS5 : Hid (Below Z.heap.size Z V5) := hS4.out.trans (hw5.out.mono HZB.out)
            obtain ⟨a5, c5, he5, RU5⟩ : ∃ a c, v5 = .slice a (n + 1) c ∧ Hid (RuS V5 a (n + 1) (ml ++ [r])) := rus_of_bs (by have h := hb5.out; rw [← flat_app] at h; exact h) HSM.out
            subst he5
            clear hb5 hw5
            refine hK1.out _ _ hS5.out ?_
            clear hK1
            intro _
            try simp only [Act.put, List.setIfInBounds_toArray, List.set_cons_zero, List.set_cons_succ]
            refine wpAnyH_ready (rs := [19]) (by kernel_rfl) (by simp) (AllReadyH.cons (i := 19) (o := { dst := some 64, op := Op.call { callee := Callee.value (Operand.func 15), args := #[Operand.tmp 62, Operand.tmp 63], argTypes := #[22, 27] }, type := 4, pos := "law.go:81", after := #[{ on := 17, ground := Ground.data }, { on := 18, ground := Ground.data }, { on := 17, ground := Ground.chain }, { on := 7, ground := Ground.guard }], guard := some (7, true) }) rfl ?_ AllReadyH.nil)
            · intro K1 hK1
              rw [if_pos (by rfl)]
              have HC6 := (dec_eq HE2.out (dec_is (ml ++ [r]) a5 (n + 1) c5 k V5 RU5.out HN1.out (HK.out.below hS5.out)))
              go_wp2_with fail
              refine HC6.mono ?_
              rintro e V6 ⟨rfl, hb6⟩
              dsimp only
              clear HC6
              have hS6 : Hid (Below Z.heap.size Z V6) := hS5.out.trans (hb6.mono hS5.out.size)
              have RU6 : Hid (RuS V6 a5 (n + 1) (ml ++ [r])) := RU5.out.below hb6
              clear hb6
              refine hK1.out _ _ hS6.out ?_
              clear hK1
              intro _
              try simp only [Act.put, List.setIfInBounds_toArray, List.set_cons_zero, List.set_cons_succ]
              refine wpAnyH_take (i := 20) (oi := { dst := some 65, op := Op.binOp BinOp.eql 4 (Operand.tmp 55) (Operand.tmp 64) 4, type := 4, pos := "law.go:81", after := #[{ on := 10, ground := Ground.data }, { on := 19, ground := Ground.data }, { on := 7, ground := Ground.guard }], guard := some (7, true) }) (v := .bool true) rfl (by kernel_rfl) (by kernel_rfl) (by kernel_rfl) (fun _ _ _ h => h.elim) (Or.inl ⟨by rfl, ?y10⟩) hS6.out ?_
              case y10 =>
                intro V hV
                go_simp
              simp only [Act.put, List.setIfInBounds_toArray, List.set_cons_zero, List.set_cons_succ]
              refine wpAnyH_take (i := 21) (oi := { dst := some 66, op := Op.pick (Operand.tmp 52) (Operand.tmp 65) (Operand.const (Value.bool false)), type := 4, pos := "law.go:81", after := #[{ on := 7, ground := Ground.data }, { on := 20, ground := Ground.data }], guard := none }) (v := .bool true) rfl (by kernel_rfl) (by kernel_rfl) (by kernel_rfl) (fun _ _ _ h => h.elim) (Or.inl ⟨by rfl, ?y11⟩) hS6.out ?_
              case y11 =>
                intro V hV
                go_simp
              simp only [Act.put, List.setIfInBounds_toArray, List.set_cons_zero, List.set_cons_succ]
              refine wpAnyH_take (i := 22) (oi := { dst := some 67, op := Op.move (Operand.tmp 66), type := 4, pos := "law.go:81", after := #[{ on := 21, ground := Ground.data }, { on := 19, ground := Ground.chain }], guard := none }) (v := .bool true) rfl (by kernel_rfl) (by kernel_rfl) (by kernel_rfl) (fun _ _ _ h => h.elim) (Or.inl ⟨by rfl, ?y12⟩) hS6.out ?_
              case y12 =>
                intro V hV
                go_simp
              simp only [Act.put, List.setIfInBounds_toArray, List.set_cons_zero, List.set_cons_succ]
              refine wpAnyH_ready (rs := [23]) (by kernel_rfl) (by simp) (AllReadyH.cons (i := 23) (o := { dst := some 68, op := Op.call { callee := Callee.value (Operand.func 10), args := #[], argTypes := #[] }, type := 4, pos := "law.go:81", after := #[{ on := 22, ground := Ground.chain }, { on := 22, ground := Ground.guard }], guard := some (22, true) }) rfl ?_ AllReadyH.nil)
              · intro K1 hK1
                rw [if_pos (by rfl)]
                have HC7 := lives_is V6
                go_wp2_with fail
                refine HC7.mono ?_
                rintro e V7 ⟨rfl, hb7⟩
                dsimp only
                clear HC7
                have hS7 : Hid (Below Z.heap.size Z V7) := hS6.out.trans (hb7.mono hS6.out.size)
                have RU7 : Hid (RuS V7 a5 (n + 1) (ml ++ [r])) := RU6.out.below hb7
                clear hb7
                refine hK1.out _ _ hS7.out ?_
                clear hK1
                intro _
                try simp only [Act.put, List.setIfInBounds_toArray, List.set_cons_zero, List.set_cons_succ]
                refine wpAnyH_take (i := 24) (oi := { dst := some 69, op := Op.pick (Operand.tmp 67) (Operand.tmp 68) (Operand.const (Value.bool false)), type := 4, pos := "law.go:81", after := #[{ on := 22, ground := Ground.data }, { on := 23, ground := Ground.data }], guard := none }) (v := .bool true) rfl (by kernel_rfl) (by kernel_rfl) (by kernel_rfl) (fun _ _ _ h => h.elim) (Or.inl ⟨by rfl, ?y13⟩) hS7.out ?_
                case y13 =>
                  intro V hV
                  go_simp
                simp only [Act.put, List.setIfInBounds_toArray, List.set_cons_zero, List.set_cons_succ]
                refine wpAnyH_take (i := 25) (oi := { dst := some 6, op := Op.assign (Operand.tmp 69), type := 4, pos := "law.go:81", after := #[{ on := 24, ground := Ground.data }, { on := 23, ground := Ground.chain }, { on := 0, ground := Ground.phase }, { on := 1, ground := Ground.phase }, { on := 2, ground := Ground.phase }, { on := 3, ground := Ground.phase }, { on := 4, ground := Ground.phase }, { on := 5, ground := Ground.phase }, { on := 6, ground := Ground.phase }, { on := 7, ground := Ground.phase }, { on := 8, ground := Ground.phase }, { on := 9, ground := Ground.phase }, { on := 10, ground := Ground.phase }, { on := 11, ground := Ground.phase }, { on := 12, ground := Ground.phase }, { on := 13, ground := Ground.phase }, { on := 14, ground := Ground.phase }, { on := 15, ground := Ground.phase }, { on := 16, ground := Ground.phase }, { on := 17, ground := Ground.phase }, { on := 18, ground := Ground.phase }, { on := 19, ground := Ground.phase }, { on := 20, ground := Ground.phase }, { on := 21, ground := Ground.phase }, { on := 22, ground := Ground.phase }, { on := 23, ground := Ground.phase }, { on := 24, ground := Ground.phase }], guard := none }) (v := .bool true) rfl (by kernel_rfl) (by kernel_rfl) (by kernel_rfl) (fun _ _ _ h => h.elim) (Or.inl ⟨by rfl, ?y14⟩) hS7.out ?_
                case y14 =>
                  intro V hV
                  go_simp
                simp only [Act.put, List.setIfInBounds_toArray, List.set_cons_zero, List.set_cons_succ]
                refine wpAnyH_done (by kernel_rfl) ?_ _
                exact hQ _ _ _ _ hS7.out
      · intro K1 hK1
        rw [if_pos (by rfl)]
        obtain ⟨V3, hv3⟩ : ∃ V, V2.alloc (.cells #[.string r.who, .string r.ch, .string r.pre, iv r.right, .bool r.deny] 31) = V := ⟨_, rfl⟩
        obtain ⟨q3, hq3⟩ : ∃ q, V2.heap.size = q := ⟨_, rfl⟩
        have hb3 : Hid (Below V2.heap.size V2 V3) := by rw [← hv3]; exact below_al _ _
        have hS3 : Hid (Below Z.heap.size Z V3) := hS2.out.trans (hb3.out.mono hS2.out.size)
        have BS3 : Hid (Bs 31 5 Bm V3 (.slice am n cm) n (flat ml)) := bs_below BS2.out hb3.out
        have BZ3 : Hid (Bm ≤ V3.heap.size) := Nat.le_trans BZ2.out hb3.out.size
        have RD3 : Hid (Rd V3 31 5 (some ⟨q3, 0, none⟩) 1 (flat [r])) := by rw [← hv3, ← hq3]; exact rd_one _ r
        go_wp2
        clear hv3 hq3 hb3
        refine hK1.out _ _ hS3.out ?_
        clear hK1
        intro _
        try simp only [Act.put, List.setIfInBounds_toArray, List.set_cons_zero, List.set_cons_succ]
        refine wpAnyH_ready (rs := [10]) (by kernel_rfl) (by simp) (AllReadyH.cons (i := 10) (o := { dst := some 55, op := Op.call { callee := Callee.value (Operand.func 15), args := #[Operand.tmp 53, Operand.tmp 54], argTypes := #[22, 27] }, type := 4, pos := "law.go:81", after := #[{ on := 8, ground := Ground.data }, { on := 9, ground := Ground.data }, { on := 7, ground := Ground.chain }, { on := 7, ground := Ground.guard }], guard := some (7, true) }) rfl ?_ AllReadyH.nil)
        · intro K1 hK1
          rw [if_pos (by rfl)]
          have HC4 := dec_is l (some ⟨b, off, none⟩) n cp k V3 (HRU.out.below hS3.out) HN.out (HK.out.below hS3.out)
          go_wp2_with fail
          refine HC4.mono ?_
          rintro e V4 ⟨rfl, hb4⟩
          dsimp only
          clear HC4
          have hS4 : Hid (Below Z.heap.size Z V4) := hS3.out.trans (hb4.mono hS3.out.size)
          have RD4 : Hid (Rd V4 31 5 (some ⟨q3, 0, none⟩) 1 (flat [r])) := RD3.out.below hb4 (Nat.le_refl _)
          have BS4 : Hid (Bs 31 5 Bm V4 (.slice am n cm) n (flat ml)) := bs_below BS3.out hb4
          have BZ4 : Hid (Bm ≤ V4.heap.size) := Nat.le_trans BZ3.out hb4.size
          clear hb4
          refine hK1.out _ _ hS4.out ?_
          clear hK1
          intro _
          try simp only [Act.put, List.setIfInBounds_toArray, List.set_cons_zero, List.set_cons_succ]
          refine wpAnyH_ready (rs := [17]) (by kernel_rfl) (by simp) (AllReadyH.cons (i := 17) (o := { dst := some 62, op := Op.call { callee := Callee.builtin Builtin.append, args := #[Operand.tmp 56, Operand.tmp 61], argTypes := #[22, 22] }, type := 22, pos := "law.go:81", after := #[{ on := 11, ground := Ground.data }, { on := 16, ground := Ground.data }, { on := 10, ground := Ground.chain }, { on := 7, ground := Ground.guard }], guard := some (7, true) }) rfl ?_ AllReadyH.nil)
          · intro K1 hK1
            refine step_append_bs (by rfl) 62 rfl (.tmp 56) (.tmp 61) 22 rfl V4 31 i0 _ 5 Bm Try.underlying22 HI0.out.1 HI0.out.2.1 HI0.out.2.2.1 HI0.out.2.2.2 rfl (by omega) (.slice am n cm) n (flat ml) BS4.out (some ⟨q3, 0, none⟩) 1 1 (flat [r]) rfl rfl RD4.out BZ4.out (by have := HN1.out; omega) ?_
            intro v5 V5 hb5 hw5
            have hS5 : Hid (Below Z.heap.size Z V5) := hS4.out.trans (hw5.out.mono HZB.out)
            obtain ⟨a5, c5, he5, RU5⟩ : ∃ a c, v5 = .slice a (n + 1) c ∧ Hid (RuS V5 a (n + 1) (ml ++ [r])) := rus_of_bs (by have h := hb5.out; rw [← flat_app] at h; exact h) HSM.out
            subst he5
            clear hb5 hw5
            refine hK1.out _ _ hS5.out ?_
            clear hK1
            intro _
            try simp only [Act.put, List.setIfInBounds_toArray, List.set_cons_zero, List.set_cons_succ]
            refine wpAnyH_ready (rs := [19]) (by kernel_rfl) (by simp) (AllReadyH.cons (i := 19) (o := { dst := some 64, op := Op.call { callee := Callee.value (Operand.func 15), args := #[Operand.tmp 62, Operand.tmp 63], argTypes := #[22, 27] }, type := 4, pos := "law.go:81", after := #[{ on := 17, ground := Ground.data }, { on := 18, ground := Ground.data }, { on := 17, ground := Ground.chain }, { on := 7, ground := Ground.guard }], guard := some (7, true) }) rfl ?_ AllReadyH.nil)
            · intro K1 hK1
              rw [if_pos (by rfl)]
              have HC6 := (dec_eq HE2.out (dec_is (ml ++ [r]) a5 (n + 1) c5 k V5 RU5.out HN1.out (HK.out.below hS5.out)))
              go_wp2_with fail
              refine HC6.mono ?_
              rintro e V6 ⟨rfl, hb6⟩
              dsimp only
              clear HC6
              have hS6 : Hid (Below Z.heap.size Z V6) := hS5.out.trans (hb6.mono hS5.out.size)
              have RU6 : Hid (RuS V6 a5 (n + 1) (ml ++ [r])) := RU5.out.below hb6
              clear hb6
              refine hK1.out _ _ hS6.out ?_
              clear hK1
              intro _
              try simp only [Act.put, List.setIfInBounds_toArray, List.set_cons_zero, List.set_cons_succ]
              refine wpAnyH_take (i := 20) (oi := { dst := some 65, op := Op.binOp BinOp.eql 4 (Operand.tmp 55) (Operand.tmp 64) 4, type := 4, pos := "law.go:81", after := #[{ on := 10, ground := Ground.data }, { on := 19, ground := Ground.data }, { on := 7, ground := Ground.guard }], guard := some (7, true) }) (v := .bool true) rfl (by kernel_rfl) (by kernel_rfl) (by kernel_rfl) (fun _ _ _ h => h.elim) (Or.inl ⟨by rfl, ?y15⟩) hS6.out ?_
              case y15 =>
                intro V hV
                go_simp
              simp only [Act.put, List.setIfInBounds_toArray, List.set_cons_zero, List.set_cons_succ]
              refine wpAnyH_take (i := 21) (oi := { dst := some 66, op := Op.pick (Operand.tmp 52) (Operand.tmp 65) (Operand.const (Value.bool false)), type := 4, pos := "law.go:81", after := #[{ on := 7, ground := Ground.data }, { on := 20, ground := Ground.data }], guard := none }) (v := .bool true) rfl (by kernel_rfl) (by kernel_rfl) (by kernel_rfl) (fun _ _ _ h => h.elim) (Or.inl ⟨by rfl, ?y16⟩) hS6.out ?_
              case y16 =>
                intro V hV
                go_simp
              simp only [Act.put, List.setIfInBounds_toArray, List.set_cons_zero, List.set_cons_succ]
              refine wpAnyH_take (i := 22) (oi := { dst := some 67, op := Op.move (Operand.tmp 66), type := 4, pos := "law.go:81", after := #[{ on := 21, ground := Ground.data }, { on := 19, ground := Ground.chain }], guard := none }) (v := .bool true) rfl (by kernel_rfl) (by kernel_rfl) (by kernel_rfl) (fun _ _ _ h => h.elim) (Or.inl ⟨by rfl, ?y17⟩) hS6.out ?_
              case y17 =>
                intro V hV
                go_simp
              simp only [Act.put, List.setIfInBounds_toArray, List.set_cons_zero, List.set_cons_succ]
              refine wpAnyH_ready (rs := [23]) (by kernel_rfl) (by simp) (AllReadyH.cons (i := 23) (o := { dst := some 68, op := Op.call { callee := Callee.value (Operand.func 10), args := #[], argTypes := #[] }, type := 4, pos := "law.go:81", after := #[{ on := 22, ground := Ground.chain }, { on := 22, ground := Ground.guard }], guard := some (22, true) }) rfl ?_ AllReadyH.nil)
              · intro K1 hK1
                rw [if_pos (by rfl)]
                have HC7 := lives_is V6
                go_wp2_with fail
                refine HC7.mono ?_
                rintro e V7 ⟨rfl, hb7⟩
                dsimp only
                clear HC7
                have hS7 : Hid (Below Z.heap.size Z V7) := hS6.out.trans (hb7.mono hS6.out.size)
                have RU7 : Hid (RuS V7 a5 (n + 1) (ml ++ [r])) := RU6.out.below hb7
                clear hb7
                refine hK1.out _ _ hS7.out ?_
                clear hK1
                intro _
                try simp only [Act.put, List.setIfInBounds_toArray, List.set_cons_zero, List.set_cons_succ]
                refine wpAnyH_take (i := 24) (oi := { dst := some 69, op := Op.pick (Operand.tmp 67) (Operand.tmp 68) (Operand.const (Value.bool false)), type := 4, pos := "law.go:81", after := #[{ on := 22, ground := Ground.data }, { on := 23, ground := Ground.data }], guard := none }) (v := .bool true) rfl (by kernel_rfl) (by kernel_rfl) (by kernel_rfl) (fun _ _ _ h => h.elim) (Or.inl ⟨by rfl, ?y18⟩) hS7.out ?_
                case y18 =>
                  intro V hV
                  go_simp
                simp only [Act.put, List.setIfInBounds_toArray, List.set_cons_zero, List.set_cons_succ]
                refine wpAnyH_take (i := 25) (oi := { dst := some 6, op := Op.assign (Operand.tmp 69), type := 4, pos := "law.go:81", after := #[{ on := 24, ground := Ground.data }, { on := 23, ground := Ground.chain }, { on := 0, ground := Ground.phase }, { on := 1, ground := Ground.phase }, { on := 2, ground := Ground.phase }, { on := 3, ground := Ground.phase }, { on := 4, ground := Ground.phase }, { on := 5, ground := Ground.phase }, { on := 6, ground := Ground.phase }, { on := 7, ground := Ground.phase }, { on := 8, ground := Ground.phase }, { on := 9, ground := Ground.phase }, { on := 10, ground := Ground.phase }, { on := 11, ground := Ground.phase }, { on := 12, ground := Ground.phase }, { on := 13, ground := Ground.phase }, { on := 14, ground := Ground.phase }, { on := 15, ground := Ground.phase }, { on := 16, ground := Ground.phase }, { on := 17, ground := Ground.phase }, { on := 18, ground := Ground.phase }, { on := 19, ground := Ground.phase }, { on := 20, ground := Ground.phase }, { on := 21, ground := Ground.phase }, { on := 22, ground := Ground.phase }, { on := 23, ground := Ground.phase }, { on := 24, ground := Ground.phase }], guard := none }) (v := .bool true) rfl (by kernel_rfl) (by kernel_rfl) (by kernel_rfl) (fun _ _ _ h => h.elim) (Or.inl ⟨by rfl, ?y19⟩) hS7.out ?_
                case y19 =>
                  intro V hV
                  go_simp
                simp only [Act.put, List.setIfInBounds_toArray, List.set_cons_zero, List.set_cons_succ]
                refine wpAnyH_done (by kernel_rfl) ?_ _
                exact hQ _ _ _ _ hS7.out
#print axioms order_dec
end Go.Proofs.Ytngkajeghmogmaa.Oct
