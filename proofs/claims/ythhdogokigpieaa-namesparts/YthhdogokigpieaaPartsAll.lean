/-
  Layer 9 (names): the law NamesParts where the text is no path; the law.
-/
import Derived.Test.YthhdogokigpieaaPartsLaw
namespace Go.Proofs.Ythhdogokigpieaa.Oct
open Go.RowKit Go.Shelf
attribute [local go_sem] Oper.semAt_some

theorem boxed_second (w : World) (stop : Int) : Boxed ((w.alloc (.cells #[.int .i64 stop] 3)).alloc (.cells #[.bool false] 4)) (w.heap.size + 1) 4 (.bool false) := by
  have e := Boxed.new (w.alloc (.cells #[.int .i64 stop] 3)) 4 (.bool false)
  rw [World.size_alloc] at e
  exact e
theorem parts_range28 {Q : Exit → Act → World → Prop} {x0 x1 x2 x3 x4 x5 x6 x7 x8 x9 x10 x11 x12 x13 x14 x15 x16 x17 x18 x19 x20 x21 x22 x23 x24 x25 x26 x27 x28 x29 x30 x32 x33 x34 x35 x36 x37 x38 x39 x40 x41 x42 x43 x44 x45 x46 x47 x48 x49 x50 x51 x52 x53 x54 x55 x56 x57 x58 x59 x60 x61 x62 x63 x64 x65 x66 x67 x68 x69 x70 x71 x72 x73 x74 x75 x76 x77 x78 x79 x80 x81 x82 x83 x84 x85 x86 x87 x88 x89 x90 x91 x92 x93 x94 : Value} {ds : List Deferred} {W8 : World}
    (hQ : ∀ W, Below W8.heap.size W8 W → W.heap[W8.heap.size]? = some (.deferred (some [])) → Q .normal { tmps := #[x0, x1, x2, x3, x4, x5, x6, x7, x8, x9, x10, x11, x12, x13, x14, x15, x16, x17, x18, x19, x20, x21, x22, x23, x24, x25, x26, x27, x28, x29, x30, .func (.func 28) #[] #[], x32, x33, x34, x35, x36, x37, x38, x39, x40, x41, x42, x43, x44, x45, x46, x47, x48, x49, x50, x51, x52, x53, x54, x55, x56, x57, x58, x59, x60, x61, x62, x63, x64, x65, x66, x67, x68, x69, x70, x71, x72, x73, x74, x75, x76, x77, x78, x79, x80, x81, x82, x83, x84, x85, x86, x87, x88, x89, x90, x91, x92, x93, x94], defers := { target := .collected W8.heap.size, args := #[] } :: ds } W) :
    (Code.rangeFunc (Operand.tmp 31) #[32, 33] ((Code.region 14 #[{ dst := some 9, op := Op.assign (Operand.tmp 32), type := 3, pos := "law.go:38", after := #[], guard := none }] false).seq (Code.region 15 #[{ dst := some 10, op := Op.assign (Operand.tmp 33), type := 9, pos := "law.go:38", after := #[], guard := none }] false)) (Code.block 3 (((Code.region 16 #[{ dst := some 34, op := Op.move (Operand.tmp 9), type := 3, pos := "law.go:39", after := #[], guard := none }, { dst := some 35, op := Op.load 3 (Operand.tmp 8), type := 3, pos := "law.go:39", after := #[], guard := none }, { dst := some 36, op := Op.binOp BinOp.neq 3 (Operand.tmp 34) (Operand.tmp 35) 3, type := 4, pos := "law.go:39", after := #[{ on := 0, ground := Ground.data }, { on := 1, ground := Ground.data }], guard := none }, { dst := some 37, op := Op.move (Operand.tmp 36), type := 4, pos := "law.go:39", after := #[{ on := 2, ground := Ground.data }], guard := none }, { dst := some 38, op := Op.load 3 (Operand.tmp 8), type := 3, pos := "law.go:39", after := #[{ on := 3, ground := Ground.guard }], guard := some (3, false) }, { dst := some 39, op := Op.load 24 (Operand.tmp 5), type := 24, pos := "law.go:39", after := #[{ on := 3, ground := Ground.guard }], guard := some (3, false) }, { dst := some 40, op := Op.call { callee := Callee.builtin Builtin.len, args := #[Operand.tmp 39], argTypes := #[24] }, type := 3, pos := "law.go:39", after := #[{ on := 5, ground := Ground.data }, { on := 3, ground := Ground.guard }], guard := some (3, false) }, { dst := some 41, op := Op.binOp BinOp.geq 3 (Operand.tmp 38) (Operand.tmp 40) 3, type := 4, pos := "law.go:39", after := #[{ on := 4, ground := Ground.data }, { on := 6, ground := Ground.data }, { on := 3, ground := Ground.guard }], guard := some (3, false) }, { dst := some 42, op := Op.pick (Operand.tmp 37) (Operand.const (Value.bool true)) (Operand.tmp 41), type := 4, pos := "law.go:39", after := #[{ on := 3, ground := Ground.data }, { on := 7, ground := Ground.data }], guard := none }, { dst := some 43, op := Op.move (Operand.tmp 42), type := 4, pos := "law.go:39", after := #[{ on := 8, ground := Ground.data }, { on := 3, ground := Ground.chain }], guard := none }, { dst := some 44, op := Op.move (Operand.tmp 10), type := 9, pos := "law.go:39", after := #[{ on := 9, ground := Ground.guard }], guard := some (9, false) }, { dst := some 45, op := Op.load 24 (Operand.tmp 5), type := 24, pos := "law.go:39", after := #[{ on := 9, ground := Ground.guard }], guard := some (9, false) }, { dst := some 46, op := Op.load 3 (Operand.tmp 8), type := 3, pos := "law.go:39", after := #[{ on := 9, ground := Ground.guard }], guard := some (9, false) }, { dst := some 47, op := Op.indexAddr 24 (Operand.tmp 45) (Operand.tmp 46), type := 0, pos := "law.go:39", after := #[{ on := 11, ground := Ground.data }, { on := 12, ground := Ground.data }, { on := 9, ground := Ground.guard }], guard := some (9, false) }, { dst := some 48, op := Op.load 9 (Operand.tmp 47), type := 9, pos := "law.go:39", after := #[{ on := 13, ground := Ground.data }, { on := 9, ground := Ground.guard }], guard := some (9, false) }, { dst := some 49, op := Op.binOp BinOp.neq 9 (Operand.tmp 44) (Operand.tmp 48) 9, type := 4, pos := "law.go:39", after := #[{ on := 10, ground := Ground.data }, { on := 14, ground := Ground.data }, { on := 9, ground := Ground.guard }], guard := some (9, false) }, { dst := some 50, op := Op.pick (Operand.tmp 43) (Operand.const (Value.bool true)) (Operand.tmp 49), type := 4, pos := "law.go:39", after := #[{ on := 9, ground := Ground.data }, { on := 15, ground := Ground.data }], guard := none }] false).seq (Code.cond (Operand.tmp 50) ((Code.region 17 #[{ dst := none, op := Op.store 4 (Operand.tmp 4) (Operand.const (Value.bool false)), type := 0, pos := "law.go:40", after := #[], guard := none }] false).seq Code.ret) Code.skip)).seq ((Code.region 18 #[{ dst := some 51, op := Op.load 3 (Operand.tmp 8), type := 3, pos := "law.go:42", after := #[], guard := none }, { dst := some 52, op := Op.binOp BinOp.add 3 (Operand.tmp 51) (Operand.const (Value.int IntKind.i64 1)) 3, type := 3, pos := "law.go:42", after := #[{ on := 0, ground := Ground.data }], guard := none }, { dst := none, op := Op.store 3 (Operand.tmp 8) (Operand.tmp 52), type := 0, pos := "law.go:42", after := #[{ on := 1, ground := Ground.data }, { on := 0, ground := Ground.phase }, { on := 1, ground := Ground.phase }], guard := none }] false).seq ((Code.region 19 #[{ dst := some 53, op := Op.load 3 (Operand.tmp 7), type := 3, pos := "law.go:43", after := #[], guard := none }, { dst := some 54, op := Op.binOp BinOp.eql 3 (Operand.tmp 53) (Operand.const (Value.int IntKind.i64 0)) 3, type := 4, pos := "law.go:43", after := #[{ on := 0, ground := Ground.data }], guard := none }, { dst := some 55, op := Op.move (Operand.tmp 54), type := 4, pos := "law.go:43", after := #[{ on := 1, ground := Ground.data }], guard := none }, { dst := some 56, op := Op.load 3 (Operand.tmp 8), type := 3, pos := "law.go:43", after := #[{ on := 2, ground := Ground.guard }], guard := some (2, true) }, { dst := some 57, op := Op.load 3 (Operand.tmp 3), type := 3, pos := "law.go:43", after := #[{ on := 2, ground := Ground.guard }], guard := some (2, true) }, { dst := some 58, op := Op.binOp BinOp.eql 3 (Operand.tmp 56) (Operand.tmp 57) 3, type := 4, pos := "law.go:43", after := #[{ on := 3, ground := Ground.data }, { on := 4, ground := Ground.data }, { on := 2, ground := Ground.guard }], guard := some (2, true) }, { dst := some 59, op := Op.pick (Operand.tmp 55) (Operand.tmp 58) (Operand.const (Value.bool false)), type := 4, pos := "law.go:43", after := #[{ on := 2, ground := Ground.data }, { on := 5, ground := Ground.data }], guard := none }] false).seq (Code.cond (Operand.tmp 59) (Code.exit 2) Code.skip)))))).wpIn Fence.wide 3 Try.prog Q { tmps := #[x0, x1, x2, x3, x4, x5, x6, x7, x8, x9, x10, x11, x12, x13, x14, x15, x16, x17, x18, x19, x20, x21, x22, x23, x24, x25, x26, x27, x28, x29, x30, .func (.func 28) #[] #[], x32, x33, x34, x35, x36, x37, x38, x39, x40, x41, x42, x43, x44, x45, x46, x47, x48, x49, x50, x51, x52, x53, x54, x55, x56, x57, x58, x59, x60, x61, x62, x63, x64, x65, x66, x67, x68, x69, x70, x71, x72, x73, x74, x75, x76, x77, x78, x79, x80, x81, x82, x83, x84, x85, x86, x87, x88, x89, x90, x91, x92, x93, x94], defers := ds } W8 := by
  refine rangeLeave (X := Empty) (gf := 28) (lb := #[]) rfl (enters_of Try.func28 (by kernel_rfl) rfl) (fun _ x => x.elim) (fun _ x => x.elim) []
    (fun _ A => Below W8.heap.size W8 A) (fun _ _ => False) (fun t A B h hb => h.trans hb) (fun _ _ _ h _ => h) (Below.refl _ _) (fun _ x => x.elim) (fun _ x => x.elim) (fun _ x => x.elim) ?iter ?done ?stop
  case iter =>
    intro J Jx A hS hB hJb hJxb hJI hY h0
    refine (nothing_in _ _ A).mono ?_
    rintro e B ⟨h, rfl⟩
    exact ⟨h, .inl h0⟩
  case done => intro W h1 hK; exact hQ W h1 hK
  case stop => rintro c A h; exact h.elim
#print axioms parts_range28

set_option maxRecDepth 100000 in
set_option maxHeartbeats 8000000 in
theorem parts_nopath (s : ByteArray) (stop : Int) (w : World) (hn : s.size ≤ 10000) (hp : isPath s.data.toList = false) :
    Calls Try.prog 4 #[.string s, .int .i64 stop] w fun e w' => e = .returned (.bool true) ∧ Below w.heap.size w w' := by
  have HN5 : Hid (s.size ≤ 100000) := by show s.size ≤ 100000; omega
  have HN7 : Hid (s.size ≤ 140737488355328) := by show s.size ≤ _; omega
  have HP : Hid (isPath s.data.toList = false) := hp
  obtain ⟨n, hsn⟩ : ∃ n, s.size = n := ⟨_, rfl⟩
  have q0 : (n : Int) ≤ 10000 := by omega
  obtain ⟨P, hPP⟩ : ∃ P, par s = P := ⟨_, rfl⟩
  obtain ⟨u, hUU⟩ : ∃ u, (!P.data.toList == []) = u := ⟨_, rfl⟩
  have HPP : Hid (par s = P) := hPP
  have HUU : Hid ((!P.data.toList == []) = u) := hUU
  clear hPP hUU hn hp
  obtain ⟨W0, hW0⟩ : ∃ W0, W0 = ((w.alloc (.cells #[.int .i64 stop] 3)).alloc (.cells #[.bool false] 4)).alloc (.cells #[.slice none 0 0] 24) := ⟨_, rfl⟩
  have hS0 : W0.heap.size = w.heap.size + 3 := by rw [hW0]; simp
  have hB0 : Below w.heap.size w W0 := by rw [hW0]; exact (((Below.refl _ w).alloc (Nat.le_refl _) _).alloc (by simp) _).alloc (by simp; omega) _
  have b1 : Boxed W0 (w.heap.size + 1) 4 (.bool false) := by
    rw [hW0]
    have e := Boxed.new (w.alloc (.cells #[.int .i64 stop] 3)) 4 (.bool false)
    rw [World.size_alloc] at e
    exact e.alloc _
  have b2 : Boxed W0 (w.heap.size + 2) 24 (.slice none 0 0) := by
    rw [hW0]
    have e := Boxed.new ((w.alloc (.cells #[.int .i64 stop] 3)).alloc (.cells #[.bool false] 4)) 24 (.slice none 0 0)
    rw [World.size_alloc, World.size_alloc] at e
    exact e
  have HS0 : Hid (W0.heap.size = w.heap.size + 3) := hS0
  have HB0 : Hid (Below w.heap.size w W0) := hB0
  have Hb1 : Hid (Boxed W0 (w.heap.size + 1) 4 (.bool false)) := b1
  have Hb2 : Hid (Boxed W0 (w.heap.size + 2) 24 (.slice none 0 0)) := b2
  have HW0 : Hid (W0 = ((w.alloc (.cells #[.int .i64 stop] 3)).alloc (.cells #[.bool false] 4)).alloc (.cells #[.slice none 0 0] 24)) := hW0
  clear hS0 hB0 b1 b2 hW0
  refine (callsIn_wide (n := 3)).1 ?_
  refine callsIn_of_wp_marks Try.func4 rfl trivial ?_ rfl
  simp only [Try.ntmps4, List.size_toArray, List.length_cons, List.length_nil, Nat.reduceAdd, Nat.reduceSub, Array.replicate_succ, Array.replicate_zero, List.push_toArray, List.append_toArray, List.nil_append, List.cons_append]
  have hnil := not_nil28
  gi_wp2_with (first
    | (refine ⟨trivial, ?_⟩; gi_at_call 12; rw [← HW0.out]; refine (callsIn_wide.2 (refPath_bb s false HP.out _ HN5.out)).mono ?_; rintro e w1 ⟨rfl, hB⟩; have HB1 : Hid (Below W0.heap.size W0 w1) := hB; clear hB)
    | (refine ⟨trivial, ?_⟩; gi_at_call 14; refine (callsIn_wide.2 (parts_no s HP.out _ HN7.out)).mono ?_; rintro e w2 ⟨rfl, hB⟩; have HB2 : Hid (Below W0.heap.size W0 w2) := HB1.out.trans (hB.mono HB1.out.size); clear hB))
  obtain ⟨WL, hWL⟩ : ∃ WL, WL = w2.alloc (.cells #[.int .i64 0] 3) := ⟨_, rfl⟩
  have HBL : Hid (Below W0.heap.size W0 WL) := by show Below _ _ _; rw [hWL]; exact HB2.out.alloc HB2.out.size _
  have HkL : Hid (Boxed WL w2.heap.size 3 (.int .i64 0)) := by show Boxed _ _ _ _; rw [hWL]; exact Boxed.new w2 3 _
  have HSL : Hid (WL.heap.size = w2.heap.size + 1) := by show WL.heap.size = _; rw [hWL]; simp
  rw [← hWL]
  clear hWL
  refine wpIn_loop_rounds 3 ?_
  rw [roundsIn_succ]
  have hk0 := HkL.out.cell
  gi_wp2_with fail
  obtain ⟨W8, hW8⟩ : ∃ W8, W8 = WL.alloc (.cells #[.int .i64 0] 3) := ⟨_, rfl⟩
  rw [← hW8]
  have HB8 : Hid (Below WL.heap.size WL W8) := by show Below _ _ _; rw [hW8]; exact (Below.refl _ WL).alloc (Nat.le_refl _) _
  have Hn8 : Hid (Boxed W8 WL.heap.size 3 (.int .i64 0)) := by show Boxed _ _ _ _; rw [hW8]; exact Boxed.new WL 3 _
  clear hW8 hk0 hnil
  refine parts_range28 ?_
  intro W hB hK
  have HBW : Hid (Below W8.heap.size W8 W) := hB
  have HKW : Hid (W.heap[W8.heap.size]? = some (.deferred (some []))) := hK
  have HB0W : Hid (Below W0.heap.size W0 W) := HBL.out.trans ((HB8.out.trans (hB.mono HB8.out.size)).mono HBL.out.size)
  have cv := (boxed_kept Hn8.out hB).cell
  have ck := (boxed_kept (boxed_kept HkL.out HB8.out) hB).cell
  have cw := (boxed_kept Hb2.out HB0W.out).cell
  clear hB hK
  gi_wp2_with fail
  rw [roundsIn_succ]
  obtain ⟨WM, hWM⟩ : ∃ WM, WM = W.alloc (.cells #[.int .i64 1] 3) := ⟨_, rfl⟩
  rw [← hWM]
  have HBM : Hid (Below W.heap.size W WM) := by show Below _ _ _; rw [hWM]; exact (Below.refl _ W).alloc (Nat.le_refl _) _
  have HkM : Hid (Boxed WM W.heap.size 3 (.int .i64 1)) := by show Boxed _ _ _ _; rw [hWM]; exact Boxed.new W 3 _
  have hk1 := HkM.out.cell
  clear hWM cv ck cw
  gi_wp2_with fail
  obtain ⟨W9, hW9⟩ : ∃ W9, W9 = WM.alloc (.cells #[.int .i64 0] 3) := ⟨_, rfl⟩
  rw [← hW9]
  have HB9 : Hid (Below WM.heap.size WM W9) := by show Below _ _ _; rw [hW9]; exact (Below.refl _ WM).alloc (Nat.le_refl _) _
  have Hn9 : Hid (Boxed W9 WM.heap.size 3 (.int .i64 0)) := by show Boxed _ _ _ _; rw [hW9]; exact Boxed.new WM 3 _
  clear hW9 hk1
  refine parts_range28 ?_
  intro V hB hK
  have HKV : Hid (V.heap[W9.heap.size]? = some (.deferred (some []))) := hK
  have HWV : Hid (Below W.heap.size W V) := HBM.out.trans ((HB9.out.trans (hB.mono HB9.out.size)).mono HBM.out.size)
  have HB0V : Hid (Below W0.heap.size W0 V) := HB0W.out.trans (HWV.out.mono HB0W.out.size)
  have HKA : Hid (V.heap[W8.heap.size]? = some (.deferred (some []))) := (HWV.out.block _ (Array.getElem?_eq_some_iff.1 HKW.out).1).trans HKW.out
  have HNE : Hid (W8.heap.size < W9.heap.size) := by
    have e1 := (Array.getElem?_eq_some_iff.1 HKW.out).1
    have e2 := HBM.out.size
    have e3 := HB9.out.size
    show W8.heap.size < W9.heap.size
    omega
  have cv := (boxed_kept Hn9.out hB).cell
  have ck := (boxed_kept (boxed_kept HkM.out HB9.out) hB).cell
  have cw := (boxed_kept Hb2.out HB0V.out).cell
  clear hB hK
  gi_wp2_with fail
  rw [roundsIn_succ]
  obtain ⟨VM, hVM⟩ : ∃ VM, VM = V.alloc (.cells #[.int .i64 2] 3) := ⟨_, rfl⟩
  rw [← hVM]
  have HVM : Hid (Below V.heap.size V VM) := by show Below _ _ _; rw [hVM]; exact (Below.refl _ V).alloc (Nat.le_refl _) _
  have HkV : Hid (Boxed VM V.heap.size 3 (.int .i64 2)) := by show Boxed _ _ _ _; rw [hVM]; exact Boxed.new V 3 _
  have hk2 := HkV.out.cell
  clear hVM cv ck cw
  gi_wp2_with (first
    | (refine ⟨trivial, ?_⟩; gi_at_call 15; refine (callsIn_wide.2 (parent_b s P u HPP.out HUU.out _ HN7.out)).mono ?_; rintro e V1 ⟨rfl, hB⟩; have HV1 : Hid (Below V.heap.size V V1) := HVM.out.trans (hB.mono HVM.out.size); clear hB)
    | (refine ⟨trivial, ?_⟩; gi_at_call 16; refine (callsIn_wide.2 (refParent_b s P u HPP.out HUU.out _ HN5.out)).mono ?_; rintro e V2 ⟨rfl, hB⟩; have HV2 : Hid (Below V.heap.size V V2) := HV1.out.trans (hB.mono HV1.out.size); clear hB)
    | (refine ⟨trivial, ?_⟩; gi_at_call 8; refine (callsIn_wide.2 (lives_is _)).mono ?_; rintro e V3 ⟨rfl, hB⟩; have HV3 : Hid (Below V.heap.size V V3) := HV2.out.trans (hB.mono HV2.out.size); have hre := boxed_kept (boxed_kept Hb1.out HB0V.out) HV3.out; have hrc := hre.cell; have hrf := hre.frozen; clear hB))
  exact parts_end (HB0.out.trans ((HB0V.out.trans (HV3.out.mono HB0V.out.size)).mono HB0.out.size)) hre ((HV3.out.block _ (Array.getElem?_eq_some_iff.1 HKA.out).1).trans HKA.out) ((HV3.out.block _ (Array.getElem?_eq_some_iff.1 HKV.out).1).trans HKV.out) (by have := HNE.out; omega) (by have := HB8.out.size; have := HBL.out.size; have := HS0.out; omega) (by have := HNE.out; have := HB8.out.size; have := HBL.out.size; have := HS0.out; omega) rfl
#print axioms parts_nopath

set_option maxRecDepth 100000 in
theorem parts_law (s : ByteArray) (stop : Int) (w : World) (hn : s.size ≤ 140737488355328) :
    Calls Try.prog 4 #[.string s, .int .i64 stop] w fun e w' => e = .returned (.bool true) ∧ Below w.heap.size w w' := by
  by_cases hl : s.size ≤ 10000
  · cases hp : isPath s.data.toList with
    | true => exact parts_path s stop w hl hp
    | false => exact parts_nopath s stop w hl hp
  · obtain ⟨n, hsn⟩ : ∃ n, s.size = n := ⟨_, rfl⟩
    have q : (10000 : Int) < (n : Int) := by omega
    clear hl hn
    go_enter Try.func4, Try.ntmps4
    go_wp2_with fail
    refine (lives_is _).mono ?_
    rintro e w1 ⟨rfl, hB⟩
    have hre := boxed_kept (boxed_second w stop) hB
    have HRE : Hid (Boxed w1 (w.heap.size + 1) 4 (.bool false)) := hre
    have hrc := hre.cell
    have hrf := hre.frozen
    have HB1 : Hid (Below w.heap.size w w1) := (((Below.refl _ w).alloc (Nat.le_refl _) (.cells #[.int .i64 stop] 3)).alloc (by simp) (.cells #[.bool false] 4)).trans (hB.mono (by simp; omega))
    clear hB hre
    go_wp2_with fail
    refine bodyPost_ret (v := .bool true) ?_ rfl ?_
    · exact results_bool rfl (HRE.out.set (.bool true)).cell
    · exact ⟨rfl, HB1.out.setCell (p := ⟨w.heap.size + 1, 0, none⟩) (by simp) _⟩
#print axioms parts_law
end Go.Proofs.Ythhdogokigpieaa.Oct
