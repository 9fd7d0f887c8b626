/-
  Layer 5 (disk): do: its drawn statements, whatever their order.
-/
import Derived.Test.YtmhdldhplhffcaaBoth
namespace Go.Proofs.Ytmhdldhplhffcaa.Oct
open Go.RowKit Go.Lib
set_option linter.unusedSimpArgs false

section
variable {o : Oper} {a : Act} {w : World} {K : Act → World → Prop} {Q : Exit → Act → World → Prop}
theorem run_bs31 (W : World) : (Instr.buildSlice 31 0 #[]).run Try.prog W = .ok (.slice (some ⟨W.heap.size, 0, none⟩) 0 0) (W.alloc (.cells #[] 3)) := by kernel_rfl
theorem wp_bs31 (hop : o.op = Op.buildSlice 31 0 #[]) (hK : K (a.put o.dst (.slice (some ⟨w.heap.size, 0, none⟩) 0 0)) (w.alloc (.cells #[] 3))) : Oper.wp Try.prog o a w K Q := by
  unfold Oper.wp execOp
  simp [hop, run_bs31, Result.andThen]
  exact hK
/-- numbers appended to none -/
theorem wp_app31 (s x : Operand) (hop : o.op = Op.call { callee := Callee.builtin Builtin.append, args := #[s, x], argTypes := #[31, 31] }) (B g : Nat) (ka : Option Addr) (k kc : Nat) (keep : List Int) (hv : a.eval s = .slice (some ⟨g, 0, none⟩) 0 0) (hx : a.eval x = .slice ka k kc)
    (hown : w.ownsRow B 3 1 (.slice (some ⟨g, 0, none⟩) 0 0) 0 []) (hin : InI w ka k kc keep) (hk : k ≤ 17592186044416) (hB : B ≤ w.heap.size)
    (hK : ∀ a' c' w', InI w' a' k c' keep → w.grownBy w' (some g) → (∀ b off, a' = some ⟨b, off, none⟩ → b = g ∨ w.heap.size ≤ b) → K (a.put o.dst (.slice a' k c')) w') : Oper.wp Try.prog o a w K Q := by
  obtain ⟨i0, hi, hz0, hz1, hz2⟩ := info_parts info3
  by_cases h0 : k = 0
  · subst h0
    have hl : keep = [] := List.eq_nil_of_length_eq_zero hin.1
    have hr := run_append_zero (P := Try.prog) w 31 o.type 3 i0 Try.underlying31 hi (some ⟨g, 0, none⟩) ka 0 0 kc (Nat.le_refl _)
    unfold Oper.wp execOp
    simp only [hop, resolve, invoke, builtin, Sem.run_bind, Sem.run_pure, Result.andThen_ok, List.map_toArray, List.map_cons, List.map_nil, hv, hx, hr]
    refine hK _ _ w ⟨hin.1, Nat.le_refl _, fun h => absurd h (by omega)⟩ (World.grownBy.refl _ _) (fun b off e => ?_)
    cases e
    exact .inl rfl
  · obtain ⟨b, off, rfl, hb, hc⟩ := hin.2.2 (by omega)
    obtain ⟨v', w', hr, h2, h3, _, h5⟩ := run_append_own_at (P := Try.prog) w B 31 o.type 3 i0 (.int .i64 0) 1 8 Try.underlying31 hi hz0 hz1 hz2 rfl (by omega) (.slice (some ⟨g, 0, none⟩) 0 0) 0 [] hown ⟨b, off, none⟩ k kc (keep.map (Value.int .i64)) (by rw [List.length_map, hin.1]; omega) (fun j u hj => by
      rw [List.getElem?_map] at hj
      obtain ⟨z, hz, rfl⟩ := Option.map_eq_some_iff.1 hj
      rw [Addr.add_lit]
      exact hc j z hz) (by intro u hu; obtain ⟨z, _, rfl⟩ := List.mem_map.1 hu; rfl) (by unfold maxLen; omega) (by omega) hB
    rw [Nat.zero_add, List.nil_append] at h2
    obtain ⟨g', c', rfl, hgl, hcl⟩ : ∃ g' c', v' = .slice (some ⟨g', 0, none⟩) k c' ∧ g' < w'.heap.size ∧ k ≤ c' := by
      rcases h2.2 with ⟨_, e⟩ | ⟨g', cap', cur, e, _, hbb, hcc, _⟩
      · omega
      · exact ⟨g', cap', e, lt_of_block hbb, hcc⟩
    unfold Oper.wp execOp
    simp only [hop, resolve, invoke, builtin, Sem.run_bind, Sem.run_pure, Result.andThen_ok, List.map_toArray, List.map_cons, List.map_nil, hv, hx, hr]
    refine hK _ _ w' ⟨hin.1, hcl, fun _ => ⟨g', 0, rfl, hgl, fun i z hz => ?_⟩⟩ h3 (fun b' off' e => ?_)
    · have hlt := (List.getElem?_eq_some_iff.1 hz).1
      rw [hin.1] at hlt
      rw [Nat.zero_add, World.ownsRow.cellAt h2 i (by omega), List.getElem?_map, hz]
      rfl
    · cases e
      rcases h5 with e5 | e5
      · exact .inl (by simpa [Value.ownBlock] using e5)
      · exact .inr (by have : g' = w.heap.size := by simpa [Value.ownBlock] using e5
                       omega)
end
set_option maxRecDepth 100000 in
set_option maxHeartbeats 2000000 in
theorem do_region18 {Q : Exit → Act → World → Prop} {x2 x3 x4 x6 x7 x8 x9 x10 x11 x12 x13 x14 x15 x16 x17 x18 x19 x20 x21 x22 x23 x24 x25 x26 x27 x28 x29 x30 x31 x32 x33 x34 x35 x36 x37 x38 x39 x40 x41 x42 x43 x44 x45 x46 x47 x48 x49 x50 x51 x52 x53 x54 x55 x56 x57 x58 x59 x60 x61 x62 x63 x64 x65 x66 x67 x68 x69 x70 x71 x72 x73 x74 x75 x76 x77 x78 x79 x80 x81 x82 x83 x84 x85 x86 x87 x88 x89 x90 x91 x92 x93 x94 x95 x96 x97 x98 x99 x100 x101 x102 x103 x104 x105 x106 x107 x108 x109 x110 x111 x112 x113 x114 x115 x116 x117 x118 x119 x120 x121 x122 x123 x124 x125 x126 x127 x128 x129 x130 x131 : Value} {ds : List Deferred} {A : World} {d r xb : Nat} {D : Disk} {S R : Nat → Prop} {L : List Value} {n : Int}
    (HB : Hid (Both A S R d r D D)) (HX : Hid (Blk A xb 33 L ∧ ¬ S xb ∧ ¬ R xb)) (hc : Hid (L[1]? = some (.int .i64 n) ∧ n ≤ 9223372036854775807))
    (hQ : ∀ (V : World), BAfter A S R d r (D.arm n).2 (D.arm n).2 V → Q .normal { tmps := #[.pointer (some ⟨d, 0, none⟩), .pointer (some ⟨r, 0, none⟩), x2, x3, x4, .pointer (some ⟨xb, 0, none⟩), .bool true, x7, x8, x9, x10, x11, x12, x13, x14, x15, x16, x17, x18, x19, x20, x21, x22, x23, x24, x25, x26, x27, x28, x29, x30, x31, x32, x33, x34, x35, x36, x37, x38, x39, x40, x41, x42, x43, x44, x45, x46, x47, x48, x49, x50, x51, x52, x53, x54, x55, x56, x57, x58, x59, x60, x61, x62, x63, x64, x65, x66, x67, x68, x69, x70, x71, x72, x73, .pointer (some ⟨d, 0, none⟩), .pointer (some ⟨xb, 1, none⟩), .int .i64 n, .int .i64 (D.arm n).1, .pointer (some ⟨r, 0, none⟩), .pointer (some ⟨xb, 1, none⟩), .int .i64 n, .int .i64 (D.arm n).1, .bool true, x83, x84, x85, x86, x87, x88, x89, x90, x91, x92, x93, x94, x95, x96, x97, x98, x99, x100, x101, x102, x103, x104, x105, x106, x107, x108, x109, x110, x111, x112, x113, x114, x115, x116, x117, x118, x119, x120, x121, x122, x123, x124, x125, x126, x127, x128, x129, x130, x131], defers := ds } V) :
    (Code.region 18 #[{ dst := some 74, op := Op.move (Operand.tmp 0), type := 23, pos := "law.go:83", after := #[], guard := none }, { dst := some 75, op := Op.fieldAddr 33 (Operand.tmp 5) 1, type := 0, pos := "law.go:83", after := #[], guard := none }, { dst := some 76, op := Op.load 3 (Operand.tmp 75), type := 3, pos := "law.go:83", after := #[{ on := 1, ground := Ground.data }], guard := none }, { dst := some 77, op := Op.call { callee := Callee.value (Operand.func 23), args := #[Operand.tmp 74, Operand.tmp 76], argTypes := #[23, 3] }, type := 24, pos := "law.go:83", after := #[{ on := 0, ground := Ground.data }, { on := 2, ground := Ground.data }], guard := none }, { dst := some 78, op := Op.move (Operand.tmp 1), type := 27, pos := "law.go:83", after := #[], guard := none }, { dst := some 79, op := Op.fieldAddr 33 (Operand.tmp 5) 1, type := 0, pos := "law.go:83", after := #[], guard := none }, { dst := some 80, op := Op.load 3 (Operand.tmp 79), type := 3, pos := "law.go:83", after := #[{ on := 5, ground := Ground.data }], guard := none }, { dst := some 81, op := Op.call { callee := Callee.value (Operand.func 34), args := #[Operand.tmp 78, Operand.tmp 80], argTypes := #[27, 3] }, type := 3, pos := "law.go:83", after := #[{ on := 4, ground := Ground.data }, { on := 6, ground := Ground.data }, { on := 3, ground := Ground.chain }], guard := none }, { dst := some 82, op := Op.binOp BinOp.eql 3 (Operand.tmp 77) (Operand.tmp 81) 3, type := 4, pos := "law.go:83", after := #[{ on := 3, ground := Ground.data }, { on := 7, ground := Ground.data }], guard := none }, { dst := some 6, op := Op.assign (Operand.tmp 82), type := 4, pos := "law.go:83", after := #[{ on := 8, ground := Ground.data }, { on := 7, ground := Ground.chain }, { on := 0, ground := Ground.phase }, { on := 1, ground := Ground.phase }, { on := 2, ground := Ground.phase }, { on := 3, ground := Ground.phase }, { on := 4, ground := Ground.phase }, { on := 5, ground := Ground.phase }, { on := 6, ground := Ground.phase }, { on := 7, ground := Ground.phase }, { on := 8, ground := Ground.phase }], guard := none }] true).wp Try.prog Q { tmps := #[.pointer (some ⟨d, 0, none⟩), .pointer (some ⟨r, 0, none⟩), x2, x3, x4, .pointer (some ⟨xb, 0, none⟩), x6, x7, x8, x9, x10, x11, x12, x13, x14, x15, x16, x17, x18, x19, x20, x21, x22, x23, x24, x25, x26, x27, x28, x29, x30, x31, x32, x33, x34, x35, x36, x37, x38, x39, x40, x41, x42, x43, x44, x45, x46, x47, x48, x49, x50, x51, x52, x53, x54, x55, x56, x57, x58, x59, x60, x61, x62, x63, x64, x65, x66, x67, x68, x69, x70, x71, x72, x73, x74, x75, x76, x77, x78, x79, x80, x81, x82, x83, x84, x85, x86, x87, x88, x89, x90, x91, x92, x93, x94, x95, x96, x97, x98, x99, x100, x101, x102, x103, x104, x105, x106, x107, x108, x109, x110, x111, x112, x113, x114, x115, x116, x117, x118, x119, x120, x121, x122, x123, x124, x125, x126, x127, x128, x129, x130, x131], defers := ds } A := by
  refine Code.wp_mono (Q := fun x a' w' => match x with | .normal => Q .normal a' w' | _ => False) (by intro x a' w' h; cases x <;> first | exact h | exact h.elim) ?_
  refine wp_region_held (S := fun V => V.cell? ⟨xb, 1, none⟩ = some (.int .i64 n)) (by kernel_rfl) ?_
  have hS0 : Hid (A.drew.cell? ⟨xb, 1, none⟩ = some (.int .i64 n)) := HX.out.1.cell hc.out.1
  change wpAnyH Try.prog .any _ _ (fun V => V.cell? ⟨xb, 1, none⟩ = some (.int .i64 n)) 10 (Array.replicate 10 false) _ A.drew
  refine wpAnyH_take (i := 0) (oi := { dst := some 74, op := Op.move (Operand.tmp 0), type := 23, pos := "law.go:83", after := #[], guard := none }) (v := .pointer (some ⟨d, 0, none⟩)) rfl (by kernel_rfl) (by kernel_rfl) (by kernel_rfl) (fun _ _ _ h => h.elim) (Or.inl ⟨by rfl, ?y0⟩) hS0.out ?_
  case y0 =>
    intro V hV
    go_simp
  simp only [Act.put, List.setIfInBounds_toArray, List.set_cons_zero, List.set_cons_succ]
  refine wpAnyH_take (i := 1) (oi := { dst := some 75, op := Op.fieldAddr 33 (Operand.tmp 5) 1, type := 0, pos := "law.go:83", after := #[], guard := none }) (v := .pointer (some ⟨xb, 1, none⟩)) rfl (by kernel_rfl) (by kernel_rfl) (by kernel_rfl) (fun _ _ _ h => h.elim) (Or.inl ⟨by rfl, ?y1⟩) hS0.out ?_
  case y1 =>
    intro V hV
    go_simp
  simp only [Act.put, List.setIfInBounds_toArray, List.set_cons_zero, List.set_cons_succ]
  refine wpAnyH_take (i := 2) (oi := { dst := some 76, op := Op.load 3 (Operand.tmp 75), type := 3, pos := "law.go:83", after := #[{ on := 1, ground := Ground.data }], guard := none }) (v := .int .i64 n) rfl (by kernel_rfl) (by kernel_rfl) (by kernel_rfl) (fun _ _ _ h => h.elim) (Or.inl ⟨by rfl, ?y2⟩) hS0.out ?_
  case y2 =>
    intro V hV
    have q : V.cell? ⟨xb, 1, none⟩ = some (.int .i64 n) := hV
    go_simp
  simp only [Act.put, List.setIfInBounds_toArray, List.set_cons_zero, List.set_cons_succ]
  refine wpAnyH_take (i := 4) (oi := { dst := some 78, op := Op.move (Operand.tmp 1), type := 27, pos := "law.go:83", after := #[], guard := none }) (v := .pointer (some ⟨r, 0, none⟩)) rfl (by kernel_rfl) (by kernel_rfl) (by kernel_rfl) (fun _ _ _ h => h.elim) (Or.inl ⟨by rfl, ?y4⟩) hS0.out ?_
  case y4 =>
    intro V hV
    go_simp
  simp only [Act.put, List.setIfInBounds_toArray, List.set_cons_zero, List.set_cons_succ]
  refine wpAnyH_take (i := 5) (oi := { dst := some 79, op := Op.fieldAddr 33 (Operand.tmp 5) 1, type := 0, pos := "law.go:83", after := #[], guard := none }) (v := .pointer (some ⟨xb, 1, none⟩)) rfl (by kernel_rfl) (by kernel_rfl) (by kernel_rfl) (fun _ _ _ h => h.elim) (Or.inl ⟨by rfl, ?y5⟩) hS0.out ?_
  case y5 =>
    intro V hV
    go_simp
  simp only [Act.put, List.setIfInBounds_toArray, List.set_cons_zero, List.set_cons_succ]
  refine wpAnyH_take (i := 6) (oi := { dst := some 80, op := Op.load 3 (Operand.tmp 79), type := 3, pos := "law.go:83", after := #[{ on := 5, ground := Ground.data }], guard := none }) (v := .int .i64 n) rfl (by kernel_rfl) (by kernel_rfl) (by kernel_rfl) (fun _ _ _ h => h.elim) (Or.inl ⟨by rfl, ?y6⟩) hS0.out ?_
  case y6 =>
    intro V hV
    have q : V.cell? ⟨xb, 1, none⟩ = some (.int .i64 n) := hV
    go_simp
  simp only [Act.put, List.setIfInBounds_toArray, List.set_cons_zero, List.set_cons_succ]
  refine wpAnyH_ready (rs := [3]) (by kernel_rfl) (by simp) (AllReadyH.cons (i := 3) (o := { dst := some 77, op := Op.call { callee := Callee.value (Operand.func 23), args := #[Operand.tmp 74, Operand.tmp 76], argTypes := #[23, 3] }, type := 24, pos := "law.go:83", after := #[{ on := 0, ground := Ground.data }, { on := 2, ground := Ground.data }], guard := none }) rfl ?_ AllReadyH.nil)
  intro K1 hK1
  rw [if_pos (by rfl)]
  have H0 : Hid (Both A.drew S R d r D D) := HB.out.below (below_drew A)
  have HC := arm_dk H0.out.dk n hc.out.2
  go_wp2_with fail
  refine HC.mono ?_
  rintro e W1 ⟨rfl, hA⟩
  dsimp only
  have F1 : Hid (BAfter A.drew S R d r (D.arm n).2 D W1) := BAfter.d H0.out hA
  have G1 : Hid (Blk W1 xb 33 L) := F1.out.blk (w := A.drew) HX.out.1 HX.out.2
  clear HC hA
  have hS1 : Hid (W1.cell? ⟨xb, 1, none⟩ = some (.int .i64 n)) := G1.out.cell hc.out.1
  refine hK1.out _ _ hS1.out ?_
  clear hK1
  intro _
  try simp only [Act.put, List.setIfInBounds_toArray, List.set_cons_zero, List.set_cons_succ]
  refine wpAnyH_ready (rs := [7]) (by kernel_rfl) (by simp) (AllReadyH.cons (i := 7) (o := { dst := some 81, op := Op.call { callee := Callee.value (Operand.func 34), args := #[Operand.tmp 78, Operand.tmp 80], argTypes := #[27, 3] }, type := 3, pos := "law.go:83", after := #[{ on := 4, ground := Ground.data }, { on := 6, ground := Ground.data }, { on := 3, ground := Ground.chain }], guard := none }) rfl ?_ AllReadyH.nil)
  intro K1 hK1
  rw [if_pos (by rfl)]
  obtain ⟨S1, R1, hB1, hs1, hr1, hk1⟩ := F1.out
  have HC := rarm_dk hB1.rk n hc.out.2
  go_wp2_with fail
  refine HC.mono ?_
  rintro e W2 ⟨rfl, hA⟩
  dsimp only
  have F2a : BAfter W1 S1 R1 d r (D.arm n).2 (D.arm n).2 W2 := BAfter.r hB1 hA
  have G2 : Hid (Blk W2 xb 33 L) := F2a.blk G1.out ⟨fun e => (hs1 xb e).elim HX.out.2.1 (fun e => by have := HX.out.1.lt; have : xb < A.heap.size := this; have h9 : A.drew.heap.size = A.heap.size := rfl; omega), fun e => (hr1 xb e).elim HX.out.2.2 (fun e => by have := HX.out.1.lt; have : xb < A.heap.size := this; have h9 : A.drew.heap.size = A.heap.size := rfl; omega)⟩
  have F2 : Hid (BAfter A S R d r (D.arm n).2 (D.arm n).2 W2) := BAfter.first (below_drew A) (BAfter.two hs1 hr1 hk1 F2a)
  clear HC hA F2a
  have hS2 : Hid (W2.cell? ⟨xb, 1, none⟩ = some (.int .i64 n)) := G2.out.cell hc.out.1
  refine hK1.out _ _ hS2.out ?_
  clear hK1
  intro _
  try simp only [Act.put, List.setIfInBounds_toArray, List.set_cons_zero, List.set_cons_succ]
  refine wpAnyH_take (i := 8) (oi := { dst := some 82, op := Op.binOp BinOp.eql 3 (Operand.tmp 77) (Operand.tmp 81) 3, type := 4, pos := "law.go:83", after := #[{ on := 3, ground := Ground.data }, { on := 7, ground := Ground.data }], guard := none }) (v := .bool true) rfl (by kernel_rfl) (by kernel_rfl) (by kernel_rfl) (fun _ _ _ h => h.elim) (Or.inl ⟨by rfl, ?y8⟩) hS2.out ?_
  case y8 =>
    intro V hV
    go_simp
  simp only [Act.put, List.setIfInBounds_toArray, List.set_cons_zero, List.set_cons_succ]
  refine wpAnyH_take (i := 9) (oi := { dst := some 6, op := Op.assign (Operand.tmp 82), type := 4, pos := "law.go:83", after := #[{ on := 8, ground := Ground.data }, { on := 7, ground := Ground.chain }, { on := 0, ground := Ground.phase }, { on := 1, ground := Ground.phase }, { on := 2, ground := Ground.phase }, { on := 3, ground := Ground.phase }, { on := 4, ground := Ground.phase }, { on := 5, ground := Ground.phase }, { on := 6, ground := Ground.phase }, { on := 7, ground := Ground.phase }, { on := 8, ground := Ground.phase }], guard := none }) (v := .bool true) rfl (by kernel_rfl) (by kernel_rfl) (by kernel_rfl) (fun _ _ _ h => h.elim) (Or.inl ⟨by rfl, ?y9⟩) hS2.out ?_
  case y9 =>
    intro V hV
    go_simp
  simp only [Act.put, List.setIfInBounds_toArray, List.set_cons_zero, List.set_cons_succ]
  refine wpAnyH_done (by kernel_rfl) ?_ _
  exact hQ W2 F2.out
#print axioms do_region18
set_option maxRecDepth 100000 in
set_option maxHeartbeats 2000000 in
theorem do_region20 {Q : Exit → Act → World → Prop} {x2 x3 x4 x6 x7 x8 x9 x10 x11 x12 x13 x14 x15 x16 x17 x18 x19 x20 x21 x22 x23 x24 x25 x26 x27 x28 x29 x30 x31 x32 x33 x34 x35 x36 x37 x38 x39 x40 x41 x42 x43 x44 x45 x46 x47 x48 x49 x50 x51 x52 x53 x54 x55 x56 x57 x58 x59 x60 x61 x62 x63 x64 x65 x66 x67 x68 x69 x70 x71 x72 x73 x74 x75 x76 x77 x78 x79 x80 x81 x82 x83 x84 x85 x86 x87 x88 x89 x90 x91 x92 x93 x94 x95 x96 x97 x98 x99 x100 x101 x102 x103 x104 x105 x106 x107 x108 x109 x110 x111 x112 x113 x114 x115 x116 x117 x118 x119 x120 x121 x122 x123 x124 x125 x126 x127 x128 x129 x130 x131 : Value} {ds : List Deferred} {A : World} {d r xb : Nat} {D : Disk} {S R : Nat → Prop} {L : List Value} {ka : Option Addr} {k kc : Nat} {keep : List Int}
    (HB : Hid (Both A S R d r D D)) (HX : Hid (Blk A xb 33 L ∧ ¬ S xb ∧ ¬ R xb)) (hn : Hid (D.ops < 1000000000)) (hc : Hid (L[4]? = some (.slice ka k kc) ∧ k ≤ 17592186044416)) (HIN : Hid (InI A ka k kc keep ∧ (0 < k → ∀ b off, ka = some ⟨b, off, none⟩ → ¬ S b ∧ ¬ R b)))
    (hQ : ∀ (a4 : Option Addr) (c4 : Nat) (V : World), BAfter A S R d r (D.restart keep).2 (D.restart keep).2 V → Q .normal { tmps := #[.pointer (some ⟨d, 0, none⟩), .pointer (some ⟨r, 0, none⟩), x2, x3, x4, .pointer (some ⟨xb, 0, none⟩), .bool true, x7, x8, x9, x10, x11, x12, x13, x14, x15, x16, x17, x18, x19, x20, x21, x22, x23, x24, x25, x26, x27, x28, x29, x30, x31, x32, x33, x34, x35, x36, x37, x38, x39, x40, x41, x42, x43, x44, x45, x46, x47, x48, x49, x50, x51, x52, x53, x54, x55, x56, x57, x58, x59, x60, x61, x62, x63, x64, x65, x66, x67, x68, x69, x70, x71, x72, x73, x74, x75, x76, x77, x78, x79, x80, x81, x82, x83, x84, .pointer (some ⟨d, 0, none⟩), .slice (some ⟨A.heap.size, 0, none⟩) 0 0, .pointer (some ⟨xb, 4, none⟩), .slice ka k kc, .slice a4 k c4, .int .i64 (D.restart keep).1, .pointer (some ⟨r, 0, none⟩), .pointer (some ⟨xb, 4, none⟩), .slice ka k kc, .int .i64 (D.restart keep).1, .bool true, x96, x97, x98, x99, x100, x101, x102, x103, x104, x105, x106, x107, x108, x109, x110, x111, x112, x113, x114, x115, x116, x117, x118, x119, x120, x121, x122, x123, x124, x125, x126, x127, x128, x129, x130, x131], defers := ds } V) :
    (Code.region 20 #[{ dst := some 85, op := Op.move (Operand.tmp 0), type := 23, pos := "law.go:85", after := #[], guard := none }, { dst := some 86, op := Op.buildSlice 31 0 #[], type := 31, pos := "law.go:85", after := #[], guard := none }, { dst := some 87, op := Op.fieldAddr 33 (Operand.tmp 5) 4, type := 0, pos := "law.go:85", after := #[], guard := none }, { dst := some 88, op := Op.load 31 (Operand.tmp 87), type := 31, pos := "law.go:85", after := #[{ on := 2, ground := Ground.data }], guard := none }, { dst := some 89, op := Op.call { callee := Callee.builtin Builtin.append, args := #[Operand.tmp 86, Operand.tmp 88], argTypes := #[31, 31] }, type := 31, pos := "law.go:85", after := #[{ on := 1, ground := Ground.data }, { on := 3, ground := Ground.data }], guard := none }, { dst := some 90, op := Op.call { callee := Callee.value (Operand.func 15), args := #[Operand.tmp 85, Operand.tmp 89], argTypes := #[23, 31] }, type := 24, pos := "law.go:85", after := #[{ on := 0, ground := Ground.data }, { on := 4, ground := Ground.data }, { on := 4, ground := Ground.chain }], guard := none }, { dst := some 91, op := Op.move (Operand.tmp 1), type := 27, pos := "law.go:85", after := #[], guard := none }, { dst := some 92, op := Op.fieldAddr 33 (Operand.tmp 5) 4, type := 0, pos := "law.go:85", after := #[], guard := none }, { dst := some 93, op := Op.load 31 (Operand.tmp 92), type := 31, pos := "law.go:85", after := #[{ on := 7, ground := Ground.data }], guard := none }, { dst := some 94, op := Op.call { callee := Callee.value (Operand.func 35), args := #[Operand.tmp 91, Operand.tmp 93], argTypes := #[27, 31] }, type := 3, pos := "law.go:85", after := #[{ on := 6, ground := Ground.data }, { on := 8, ground := Ground.data }, { on := 5, ground := Ground.chain }], guard := none }, { dst := some 95, op := Op.binOp BinOp.eql 3 (Operand.tmp 90) (Operand.tmp 94) 3, type := 4, pos := "law.go:85", after := #[{ on := 5, ground := Ground.data }, { on := 9, ground := Ground.data }], guard := none }, { dst := some 6, op := Op.assign (Operand.tmp 95), type := 4, pos := "law.go:85", after := #[{ on := 10, ground := Ground.data }, { on := 9, ground := Ground.chain }, { on := 0, ground := Ground.phase }, { on := 1, ground := Ground.phase }, { on := 2, ground := Ground.phase }, { on := 3, ground := Ground.phase }, { on := 4, ground := Ground.phase }, { on := 5, ground := Ground.phase }, { on := 6, ground := Ground.phase }, { on := 7, ground := Ground.phase }, { on := 8, ground := Ground.phase }, { on := 9, ground := Ground.phase }, { on := 10, ground := Ground.phase }], guard := none }] true).wp Try.prog Q { tmps := #[.pointer (some ⟨d, 0, none⟩), .pointer (some ⟨r, 0, none⟩), x2, x3, x4, .pointer (some ⟨xb, 0, none⟩), x6, x7, x8, x9, x10, x11, x12, x13, x14, x15, x16, x17, x18, x19, x20, x21, x22, x23, x24, x25, x26, x27, x28, x29, x30, x31, x32, x33, x34, x35, x36, x37, x38, x39, x40, x41, x42, x43, x44, x45, x46, x47, x48, x49, x50, x51, x52, x53, x54, x55, x56, x57, x58, x59, x60, x61, x62, x63, x64, x65, x66, x67, x68, x69, x70, x71, x72, x73, x74, x75, x76, x77, x78, x79, x80, x81, x82, x83, x84, x85, x86, x87, x88, x89, x90, x91, x92, x93, x94, x95, x96, x97, x98, x99, x100, x101, x102, x103, x104, x105, x106, x107, x108, x109, x110, x111, x112, x113, x114, x115, x116, x117, x118, x119, x120, x121, x122, x123, x124, x125, x126, x127, x128, x129, x130, x131], defers := ds } A := by
  refine Code.wp_mono (Q := fun x a' w' => match x with | .normal => Q .normal a' w' | _ => False) (by intro x a' w' h; cases x <;> first | exact h | exact h.elim) ?_
  refine wp_region_held (S := fun V => V.cell? ⟨xb, 4, none⟩ = some (.slice ka k kc)) (by kernel_rfl) ?_
  have hS0 : Hid (A.drew.cell? ⟨xb, 4, none⟩ = some (.slice ka k kc)) := HX.out.1.cell hc.out.1
  change wpAnyH Try.prog .any _ _ (fun V => V.cell? ⟨xb, 4, none⟩ = some (.slice ka k kc)) 12 (Array.replicate 12 false) _ A.drew
  refine wpAnyH_take (i := 0) (oi := { dst := some 85, op := Op.move (Operand.tmp 0), type := 23, pos := "law.go:85", after := #[], guard := none }) (v := .pointer (some ⟨d, 0, none⟩)) rfl (by kernel_rfl) (by kernel_rfl) (by kernel_rfl) (fun _ _ _ h => h.elim) (Or.inl ⟨by rfl, ?y0⟩) hS0.out ?_
  case y0 =>
    intro V hV
    go_simp
  simp only [Act.put, List.setIfInBounds_toArray, List.set_cons_zero, List.set_cons_succ]
  refine wpAnyH_take (i := 2) (oi := { dst := some 87, op := Op.fieldAddr 33 (Operand.tmp 5) 4, type := 0, pos := "law.go:85", after := #[], guard := none }) (v := .pointer (some ⟨xb, 4, none⟩)) rfl (by kernel_rfl) (by kernel_rfl) (by kernel_rfl) (fun _ _ _ h => h.elim) (Or.inl ⟨by rfl, ?y2⟩) hS0.out ?_
  case y2 =>
    intro V hV
    go_simp
  simp only [Act.put, List.setIfInBounds_toArray, List.set_cons_zero, List.set_cons_succ]
  refine wpAnyH_take (i := 3) (oi := { dst := some 88, op := Op.load 31 (Operand.tmp 87), type := 31, pos := "law.go:85", after := #[{ on := 2, ground := Ground.data }], guard := none }) (v := .slice ka k kc) rfl (by kernel_rfl) (by kernel_rfl) (by kernel_rfl) (fun _ _ _ h => h.elim) (Or.inl ⟨by rfl, ?y3⟩) hS0.out ?_
  case y3 =>
    intro V hV
    have q : V.cell? ⟨xb, 4, none⟩ = some (.slice ka k kc) := hV
    go_simp
  simp only [Act.put, List.setIfInBounds_toArray, List.set_cons_zero, List.set_cons_succ]
  refine wpAnyH_take (i := 6) (oi := { dst := some 91, op := Op.move (Operand.tmp 1), type := 27, pos := "law.go:85", after := #[], guard := none }) (v := .pointer (some ⟨r, 0, none⟩)) rfl (by kernel_rfl) (by kernel_rfl) (by kernel_rfl) (fun _ _ _ h => h.elim) (Or.inl ⟨by rfl, ?y6⟩) hS0.out ?_
  case y6 =>
    intro V hV
    go_simp
  simp only [Act.put, List.setIfInBounds_toArray, List.set_cons_zero, List.set_cons_succ]
  refine wpAnyH_take (i := 7) (oi := { dst := some 92, op := Op.fieldAddr 33 (Operand.tmp 5) 4, type := 0, pos := "law.go:85", after := #[], guard := none }) (v := .pointer (some ⟨xb, 4, none⟩)) rfl (by kernel_rfl) (by kernel_rfl) (by kernel_rfl) (fun _ _ _ h => h.elim) (Or.inl ⟨by rfl, ?y7⟩) hS0.out ?_
  case y7 =>
    intro V hV
    go_simp
  simp only [Act.put, List.setIfInBounds_toArray, List.set_cons_zero, List.set_cons_succ]
  refine wpAnyH_take (i := 8) (oi := { dst := some 93, op := Op.load 31 (Operand.tmp 92), type := 31, pos := "law.go:85", after := #[{ on := 7, ground := Ground.data }], guard := none }) (v := .slice ka k kc) rfl (by kernel_rfl) (by kernel_rfl) (by kernel_rfl) (fun _ _ _ h => h.elim) (Or.inl ⟨by rfl, ?y8⟩) hS0.out ?_
  case y8 =>
    intro V hV
    have q : V.cell? ⟨xb, 4, none⟩ = some (.slice ka k kc) := hV
    go_simp
  simp only [Act.put, List.setIfInBounds_toArray, List.set_cons_zero, List.set_cons_succ]
  refine wpAnyH_ready (rs := [1]) (by kernel_rfl) (by simp) (AllReadyH.cons (i := 1) (o := { dst := some 86, op := Op.buildSlice 31 0 #[], type := 31, pos := "law.go:85", after := #[], guard := none }) rfl ?_ AllReadyH.nil)
  intro K1 hK1
  rw [if_pos (by rfl)]
  refine wp_bs31 rfl ?_
  obtain ⟨W1, hW1⟩ : ∃ W1, A.drew.alloc (.cells #[] 3) = W1 := ⟨_, rfl⟩
  have F1 : Hid (Below A.heap.size A W1 ∧ W1.ownsRow A.heap.size 3 1 (.slice (some ⟨A.heap.size, 0, none⟩) 0 0) 0 [] ∧ A.heap.size < W1.heap.size) := by
    rw [← hW1]
    exact ⟨(below_drew A).alloc (Nat.le_refl _) _, own_made (w := A.drew) _ _ _ (Nat.le_refl _), by simp⟩
  rw [hW1]
  clear hW1
  have hS1 : Hid (W1.cell? ⟨xb, 4, none⟩ = some (.slice ka k kc)) := (HX.out.1.below F1.out.1 HX.out.1.lt).cell hc.out.1
  refine hK1.out _ _ hS1.out ?_
  clear hK1
  intro _
  try simp only [Act.put, List.setIfInBounds_toArray, List.set_cons_zero, List.set_cons_succ]
  refine wpAnyH_ready (rs := [4]) (by kernel_rfl) (by simp) (AllReadyH.cons (i := 4) (o := { dst := some 89, op := Op.call { callee := Callee.builtin Builtin.append, args := #[Operand.tmp 86, Operand.tmp 88], argTypes := #[31, 31] }, type := 31, pos := "law.go:85", after := #[{ on := 1, ground := Ground.data }, { on := 3, ground := Ground.data }], guard := none }) rfl ?_ AllReadyH.nil)
  intro K1 hK1
  rw [if_pos (by rfl)]
  refine wp_app31 (.tmp 86) (.tmp 88) rfl A.heap.size A.heap.size ka k kc keep rfl rfl F1.out.2.1 (HIN.out.1.below F1.out.1) hc.out.2 F1.out.1.size ?_
  intro a4 c4 W2 hin4 hg4 hn4
  have F2 : Hid (Below A.heap.size A W2 ∧ InI W2 a4 k c4 keep) := ⟨F1.out.1.grown hg4 F1.out.1.size (by intro j hj; simp at hj; omega), hin4⟩
  clear hin4 hg4 hn4
  have hS2 : Hid (W2.cell? ⟨xb, 4, none⟩ = some (.slice ka k kc)) := (HX.out.1.below F2.out.1 HX.out.1.lt).cell hc.out.1
  refine hK1.out _ _ hS2.out ?_
  clear hK1
  intro _
  try simp only [Act.put, List.setIfInBounds_toArray, List.set_cons_zero, List.set_cons_succ]
  refine wpAnyH_ready (rs := [5]) (by kernel_rfl) (by simp) (AllReadyH.cons (i := 5) (o := { dst := some 90, op := Op.call { callee := Callee.value (Operand.func 15), args := #[Operand.tmp 85, Operand.tmp 89], argTypes := #[23, 31] }, type := 24, pos := "law.go:85", after := #[{ on := 0, ground := Ground.data }, { on := 4, ground := Ground.data }, { on := 4, ground := Ground.chain }], guard := none }) rfl ?_ AllReadyH.nil)
  intro K1 hK1
  rw [if_pos (by rfl)]
  have H0 : Hid (Both W2 S R d r D D) := HB.out.below F2.out.1
  have HC := restart_dk H0.out.dk (by have := hn.out; omega) a4 k c4 keep F2.out.2 hc.out.2
  go_wp2_with fail
  refine HC.mono ?_
  rintro e W3 ⟨rfl, hA⟩
  dsimp only
  have F3 : Hid (BAfter W2 S R d r (D.restart keep).2 D W3) := BAfter.d H0.out hA
  have G3 : Hid (Blk W3 xb 33 L) := F3.out.blk (HX.out.1.below F2.out.1 HX.out.1.lt) HX.out.2
  clear HC hA
  have hS3 : Hid (W3.cell? ⟨xb, 4, none⟩ = some (.slice ka k kc)) := G3.out.cell hc.out.1
  refine hK1.out _ _ hS3.out ?_
  clear hK1
  intro _
  try simp only [Act.put, List.setIfInBounds_toArray, List.set_cons_zero, List.set_cons_succ]
  refine wpAnyH_ready (rs := [9]) (by kernel_rfl) (by simp) (AllReadyH.cons (i := 9) (o := { dst := some 94, op := Op.call { callee := Callee.value (Operand.func 35), args := #[Operand.tmp 91, Operand.tmp 93], argTypes := #[27, 31] }, type := 3, pos := "law.go:85", after := #[{ on := 6, ground := Ground.data }, { on := 8, ground := Ground.data }, { on := 5, ground := Ground.chain }], guard := none }) rfl ?_ AllReadyH.nil)
  intro K1 hK1
  rw [if_pos (by rfl)]
  obtain ⟨S1, R1, hB1, hs1, hr1, hk1⟩ := F3.out
  have HI3 : InI W3 ka k kc keep := by
    have hi2 := HIN.out.1.below F2.out.1
    refine ⟨hi2.1, hi2.2.1, fun hp => ?_⟩
    obtain ⟨b, off, e, hb, hcc⟩ := hi2.2.2 hp
    have hne := HIN.out.2 hp b off e
    refine ⟨b, off, e, Nat.lt_of_lt_of_le hb hk1.size, fun i z hz => ?_⟩
    rw [← hcc i z hz]
    simp only [World.cell?, hk1.block b hb (fun e => e.elim hne.1 hne.2)]
  have HC := rrestart_dk hB1.rk hn.out ka k kc keep HI3 hc.out.2 (fun hp b off e hr => by
    obtain ⟨_, h2⟩ := HIN.out.2 hp b off e
    rcases hr1 b hr with h3 | h3
    · exact h2 h3
    · obtain ⟨b', off', e', hb', _⟩ := (HIN.out.1.below F2.out.1).2.2 hp
      rw [e] at e'
      cases e'
      omega)
  go_wp2_with fail
  refine HC.mono ?_
  rintro e W4 ⟨rfl, hA⟩
  dsimp only
  have F4a : BAfter W3 S1 R1 d r (D.restart keep).2 (D.restart keep).2 W4 := BAfter.r hB1 hA
  have G4 : Hid (Blk W4 xb 33 L) := F4a.blk G3.out ⟨fun e => (hs1 xb e).elim HX.out.2.1 (fun e => by have := HX.out.1.lt; have h9 := F2.out.1.size; omega), fun e => (hr1 xb e).elim HX.out.2.2 (fun e => by have := HX.out.1.lt; have h9 := F2.out.1.size; omega)⟩
  have F4 : Hid (BAfter A S R d r (D.restart keep).2 (D.restart keep).2 W4) := BAfter.first F2.out.1 (BAfter.two hs1 hr1 hk1 F4a)
  clear HC hA F4a HI3
  have hS4 : Hid (W4.cell? ⟨xb, 4, none⟩ = some (.slice ka k kc)) := G4.out.cell hc.out.1
  refine hK1.out _ _ hS4.out ?_
  clear hK1
  intro _
  try simp only [Act.put, List.setIfInBounds_toArray, List.set_cons_zero, List.set_cons_succ]
  refine wpAnyH_take (i := 10) (oi := { dst := some 95, op := Op.binOp BinOp.eql 3 (Operand.tmp 90) (Operand.tmp 94) 3, type := 4, pos := "law.go:85", after := #[{ on := 5, ground := Ground.data }, { on := 9, ground := Ground.data }], guard := none }) (v := .bool true) rfl (by kernel_rfl) (by kernel_rfl) (by kernel_rfl) (fun _ _ _ h => h.elim) (Or.inl ⟨by rfl, ?y10⟩) hS4.out ?_
  case y10 =>
    intro V hV
    go_simp
  simp only [Act.put, List.setIfInBounds_toArray, List.set_cons_zero, List.set_cons_succ]
  refine wpAnyH_take (i := 11) (oi := { dst := some 6, op := Op.assign (Operand.tmp 95), type := 4, pos := "law.go:85", after := #[{ on := 10, ground := Ground.data }, { on := 9, ground := Ground.chain }, { on := 0, ground := Ground.phase }, { on := 1, ground := Ground.phase }, { on := 2, ground := Ground.phase }, { on := 3, ground := Ground.phase }, { on := 4, ground := Ground.phase }, { on := 5, ground := Ground.phase }, { on := 6, ground := Ground.phase }, { on := 7, ground := Ground.phase }, { on := 8, ground := Ground.phase }, { on := 9, ground := Ground.phase }, { on := 10, ground := Ground.phase }], guard := none }) (v := .bool true) rfl (by kernel_rfl) (by kernel_rfl) (by kernel_rfl) (fun _ _ _ h => h.elim) (Or.inl ⟨by rfl, ?y11⟩) hS4.out ?_
  case y11 =>
    intro V hV
    go_simp
  simp only [Act.put, List.setIfInBounds_toArray, List.set_cons_zero, List.set_cons_succ]
  refine wpAnyH_done (by kernel_rfl) ?_ _
  exact hQ a4 c4 W4 F4.out
#print axioms do_region20
end Go.Proofs.Ytmhdldhplhffcaa.Oct
