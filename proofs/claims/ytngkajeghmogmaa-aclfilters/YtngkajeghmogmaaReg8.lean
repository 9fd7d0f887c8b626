/-
  Layer 17 (acl): AclFilters: the drawn regions of the reference's Filter and of the law.
-/
import Derived.Test.YtngkajeghmogmaaReg3
import Derived.Test.YtngkajeghmogmaaAllS
namespace Go.Proofs.Ytngkajeghmogmaa.Oct
open Go.RowKit Go.Shelf
set_option linter.unusedSimpArgs false
set_option linter.unusedVariables false

theorem refDecide_b {b : Bool} (l : List Ru) (a : Option Addr) (n cp : Nat) (s : Sj) (ch path : BA) (right : Int) (w : World) (hl : RuS w a n l) (hn : n ≤ 2199023255551) (hs : s.at w) (hp : path.size ≤ 140737488355328) (hu : s.user.size ≤ 140737488355328) (ht : ∀ t ∈ s.teams, t.size ≤ 140737488355328) (h : decB l s ch path right = b) :
    Calls Try.prog 16 #[.slice a n cp, sv s, .string ch, .string path, iv right] w fun e w' => e = .returned (.bool b) ∧ Below w.heap.size w w' := by
  subst h; exact refDecide_is l a n cp s ch path right w hl hn hs hp hu ht
set_option maxRecDepth 100000 in
set_option maxHeartbeats 4000000 in
theorem rfil_reg {Q : Exit → Act → World → Prop} {x1 x5 x7 x8 x9 x10 x11 x13 x14 x15 x16 x17 x18 x19 x20 x21 x22 x23 x24 x25 x26 x27 x28 x29 x30 x31 x32 x33 x34 x35 : Value} {ds : List Deferred} {A : World} {b off pn pc i g n cp : Nat} {a : Option Addr} {l : List Ru} {s : Sj} {ch x : BA} {right : Int} {m : Bool}
    (HX : Hid (A.cell? ⟨b, off + i, none⟩ = some (.string x) ∧ b < A.heap.size)) (HB : Hid (Blk A g 25 [.string s.user, .slice s.ta s.tn s.tc, iv s.role])) (HL : Hid (RuS A a n l ∧ n ≤ 2199023255551)) (HS : Hid (s.at A ∧ x.size ≤ 140737488355328 ∧ s.user.size ≤ 140737488355328 ∧ ∀ t ∈ s.teams, t.size ≤ 140737488355328)) (q1 : (i : Int) < (pn : Int)) (hm : Hid (decB l s ch x right = m))
    (hQ : ∀ V1, Below A.heap.size A V1 → Q .normal { tmps := #[.slice a n cp, x1, .string ch, .slice (some ⟨b, off, none⟩) pn pc, iv right, x5, .pointer (some ⟨g, 0, none⟩), x7, x8, x9, x10, x11, iv (i : Int), x13, x14, x15, x16, x17, x18, .slice a n cp, .agg #[.string s.user, .slice s.ta s.tn s.tc, iv s.role], .string ch, .slice (some ⟨b, off, none⟩) pn pc, iv (i : Int), .pointer (some ⟨b, off + i, none⟩), .string x, iv right, .bool m, x28, x29, x30, x31, x32, x33, x34, x35], defers := ds } V1) :
    (Code.region 5 #[{ dst := some 19, op := Op.move (Operand.tmp 0), type := 22, pos := "ref.go:66", after := #[], guard := none }, { dst := some 20, op := Op.load 25 (Operand.tmp 6), type := 25, pos := "ref.go:66", after := #[], guard := none }, { dst := some 21, op := Op.move (Operand.tmp 2), type := 9, pos := "ref.go:66", after := #[], guard := none }, { dst := some 22, op := Op.move (Operand.tmp 3), type := 23, pos := "ref.go:66", after := #[], guard := none }, { dst := some 23, op := Op.move (Operand.tmp 12), type := 3, pos := "ref.go:66", after := #[], guard := none }, { dst := some 24, op := Op.indexAddr 23 (Operand.tmp 22) (Operand.tmp 23), type := 0, pos := "ref.go:66", after := #[{ on := 3, ground := Ground.data }, { on := 4, ground := Ground.data }], guard := none }, { dst := some 25, op := Op.load 9 (Operand.tmp 24), type := 9, pos := "ref.go:66", after := #[{ on := 5, ground := Ground.data }], guard := none }, { dst := some 26, op := Op.move (Operand.tmp 4), type := 3, pos := "ref.go:66", after := #[], guard := none }, { dst := some 27, op := Op.call { callee := Callee.value (Operand.func 16), args := #[Operand.tmp 19, Operand.tmp 20, Operand.tmp 21, Operand.tmp 25, Operand.tmp 26], argTypes := #[22, 25, 9, 9, 3] }, type := 4, pos := "ref.go:66", after := #[{ on := 0, ground := Ground.data }, { on := 1, ground := Ground.data }, { on := 2, ground := Ground.data }, { on := 6, ground := Ground.data }, { on := 7, ground := Ground.data }], guard := none }] true).wp Try.prog Q { tmps := #[.slice a n cp, x1, .string ch, .slice (some ⟨b, off, none⟩) pn pc, iv right, x5, .pointer (some ⟨g, 0, none⟩), x7, x8, x9, x10, x11, iv (i : Int), x13, x14, x15, x16, x17, x18, x19, x20, x21, x22, x23, x24, x25, x26, x27, x28, x29, x30, x31, x32, x33, x34, x35], defers := ds } A := by
  refine Code.wp_mono (Q := fun x a' w' => match x with | .normal => Q .normal a' w' | _ => False) (by intro x a' w' h; cases x <;> first | exact h | exact h.elim) ?_
  refine wp_region_held (S := fun V => Below A.heap.size A V) (by kernel_rfl) ?_
  have hS0 : Hid (Below A.heap.size A A.drew) := below_drew0 A
  change wpAnyH Try.prog .any _ _ (fun V => Below A.heap.size A V) 9 (Array.replicate 9 false) _ A.drew
  obtain ⟨V0, hV0⟩ : ∃ V0, A.drew = V0 := ⟨_, rfl⟩
  rw [hV0]
  rw [hV0] at hS0
  clear hV0
  refine wpAnyH_take (i := 0) (oi := { dst := some 19, op := Op.move (Operand.tmp 0), type := 22, pos := "ref.go:66", after := #[], guard := none }) (v := .slice a n cp) rfl (by kernel_rfl) (by kernel_rfl) (by kernel_rfl) (fun _ _ _ h => h.elim) (Or.inl ⟨by rfl, ?y1⟩) hS0.out ?_
  case y1 =>
    intro V hV
    go_simp
  simp only [Act.put, List.setIfInBounds_toArray, List.set_cons_zero, List.set_cons_succ]
  refine wpAnyH_take (i := 1) (oi := { dst := some 20, op := Op.load 25 (Operand.tmp 6), type := 25, pos := "ref.go:66", after := #[], guard := none }) (v := .agg #[.string s.user, .slice s.ta s.tn s.tc, iv s.role]) rfl (by kernel_rfl) (by kernel_rfl) (by kernel_rfl) (fun _ _ _ h => h.elim) (yieldsIf_load_mid (by rfl) _ _ rfl _ _ rfl ([.string s.user, .slice s.ta s.tn s.tc, iv s.role]) _ (fun V hV => rangeAt_same (HB.out.range 0 3) ((show Below A.heap.size A V from hV).block _ (HB.out.lt))) Try.underlying25 rfl (size25)) hS0.out ?_
  simp only [Act.put, List.setIfInBounds_toArray, List.set_cons_zero, List.set_cons_succ]
  refine wpAnyH_take (i := 2) (oi := { dst := some 21, op := Op.move (Operand.tmp 2), type := 9, pos := "ref.go:66", after := #[], guard := none }) (v := .string ch) rfl (by kernel_rfl) (by kernel_rfl) (by kernel_rfl) (fun _ _ _ h => h.elim) (Or.inl ⟨by rfl, ?y2⟩) hS0.out ?_
  case y2 =>
    intro V hV
    go_simp
  simp only [Act.put, List.setIfInBounds_toArray, List.set_cons_zero, List.set_cons_succ]
  refine wpAnyH_take (i := 3) (oi := { dst := some 22, op := Op.move (Operand.tmp 3), type := 23, pos := "ref.go:66", after := #[], guard := none }) (v := .slice (some ⟨b, off, none⟩) pn pc) rfl (by kernel_rfl) (by kernel_rfl) (by kernel_rfl) (fun _ _ _ h => h.elim) (Or.inl ⟨by rfl, ?y3⟩) hS0.out ?_
  case y3 =>
    intro V hV
    go_simp
  simp only [Act.put, List.setIfInBounds_toArray, List.set_cons_zero, List.set_cons_succ]
  refine wpAnyH_take (i := 4) (oi := { dst := some 23, op := Op.move (Operand.tmp 12), type := 3, pos := "ref.go:66", after := #[], guard := none }) (v := iv (i : Int)) rfl (by kernel_rfl) (by kernel_rfl) (by kernel_rfl) (fun _ _ _ h => h.elim) (Or.inl ⟨by rfl, ?y4⟩) hS0.out ?_
  case y4 =>
    intro V hV
    go_simp
  simp only [Act.put, List.setIfInBounds_toArray, List.set_cons_zero, List.set_cons_succ]
  refine wpAnyH_take (i := 5) (oi := { dst := some 24, op := Op.indexAddr 23 (Operand.tmp 22) (Operand.tmp 23), type := 0, pos := "ref.go:66", after := #[{ on := 3, ground := Ground.data }, { on := 4, ground := Ground.data }], guard := none }) (v := .pointer (some ⟨b, off + i, none⟩)) rfl (by kernel_rfl) (by kernel_rfl) (by kernel_rfl) (fun _ _ _ h => h.elim) (Or.inl ⟨by rfl, ?y5⟩) hS0.out ?_
  case y5 =>
    intro V hV
    go_simp
  simp only [Act.put, List.setIfInBounds_toArray, List.set_cons_zero, List.set_cons_succ]
  refine wpAnyH_take (i := 6) (oi := { dst := some 25, op := Op.load 9 (Operand.tmp 24), type := 9, pos := "ref.go:66", after := #[{ on := 5, ground := Ground.data }], guard := none }) (v := .string x) rfl (by kernel_rfl) (by kernel_rfl) (by kernel_rfl) (fun _ _ _ h => h.elim) (Or.inl ⟨by rfl, ?y6⟩) hS0.out ?_
  case y6 =>
    intro V hV
    have hc : V.cell? ⟨b, off + i, none⟩ = some (.string x) := ((show Below A.heap.size A V from hV).cell (p := ⟨b, off + i, none⟩) HX.out.2).trans HX.out.1
    go_simp
  simp only [Act.put, List.setIfInBounds_toArray, List.set_cons_zero, List.set_cons_succ]
  refine wpAnyH_take (i := 7) (oi := { dst := some 26, op := Op.move (Operand.tmp 4), type := 3, pos := "ref.go:66", after := #[], guard := none }) (v := iv right) rfl (by kernel_rfl) (by kernel_rfl) (by kernel_rfl) (fun _ _ _ h => h.elim) (Or.inl ⟨by rfl, ?y7⟩) hS0.out ?_
  case y7 =>
    intro V hV
    go_simp
  simp only [Act.put, List.setIfInBounds_toArray, List.set_cons_zero, List.set_cons_succ]
  refine wpAnyH_ready (rs := [8]) (by kernel_rfl) (by simp) (AllReadyH.cons (i := 8) (o := { dst := some 27, op := Op.call { callee := Callee.value (Operand.func 16), args := #[Operand.tmp 19, Operand.tmp 20, Operand.tmp 21, Operand.tmp 25, Operand.tmp 26], argTypes := #[22, 25, 9, 9, 3] }, type := 4, pos := "ref.go:66", after := #[{ on := 0, ground := Ground.data }, { on := 1, ground := Ground.data }, { on := 2, ground := Ground.data }, { on := 6, ground := Ground.data }, { on := 7, ground := Ground.data }], guard := none }) rfl ?_ AllReadyH.nil)
  · intro K1 hK1
    rw [if_pos (by rfl)]
    have HC1 := refDecide_b l a n cp s ch x right V0 (HL.out.1.below hS0.out) HL.out.2 (HS.out.1.below hS0.out) HS.out.2.1 HS.out.2.2.1 HS.out.2.2.2 hm.out
    go_wp2_with fail
    refine HC1.mono ?_
    rintro e V1 ⟨rfl, hb1⟩
    dsimp only
    clear HC1
    have hS1 : Hid (Below A.heap.size A V1) := hS0.out.trans (hb1.mono hS0.out.size)
    clear hb1
    refine hK1.out _ _ hS1.out ?_
    clear hK1
    intro _
    try simp only [Act.put, List.setIfInBounds_toArray, List.set_cons_zero, List.set_cons_succ]
    refine wpAnyH_done (by kernel_rfl) ?_ _
    exact hQ V1 hS1.out
#print axioms rfil_reg
set_option maxRecDepth 100000 in
set_option maxHeartbeats 4000000 in
theorem fil_reg9 {Q : Exit → Act → World → Prop} {x1 x3 x5 x6 x7 x8 x9 x10 x11 x12 x13 x14 x15 x16 x17 x18 x19 x20 x21 x22 x23 x24 x25 x26 x27 x28 x29 x30 x31 x32 x33 x34 x35 x36 x37 x38 x39 x40 x41 x42 x43 x44 x45 x46 x47 x48 x49 x50 x51 x52 x53 x54 x55 x56 x57 x58 x59 x60 x61 x62 x63 x64 x65 x66 x67 x68 x69 x70 x71 x72 : Value} {ds : List Deferred} {A : World} {g n cp pn pc : Nat} {a pa : Option Addr} {l : List Ru} {k : Ak} {ps : List BA} {i0 : TypeInfo}
    (HA : Hid (Blk A g 27 [.string k.s.user, .slice k.s.ta k.s.tn k.s.tc, iv k.s.role, .string k.ch, .string k.path, iv k.right])) (HK : Hid (k.at A ∧ k.wide)) (HL : Hid (RuS A a n l ∧ n ≤ 2199023255551)) (HP : Hid (Strs A pa pn ps ∧ pn ≤ 1000000 ∧ ∀ p ∈ ps, p.size ≤ 140737488355328)) (HI0 : Hid (Try.prog.info? 9 = some i0 ∧ i0.zero = some (.string ⟨#[]⟩) ∧ i0.size = 1 ∧ i0.bytes ≤ 64))
    (hQ : ∀ V1 q0 qa qc fa fn fc, Below A.heap.size A V1 → Strs V1 fa fn (ps.filter fun p => decB l k.s k.ch p k.right) → Q .normal { tmps := #[.slice a n cp, x1, .slice pa pn pc, x3, .pointer (some ⟨g, 0, none⟩), x5, x6, x7, x8, .slice fa fn fc, x10, x11, x12, x13, x14, x15, x16, x17, x18, x19, x20, x21, x22, x23, x24, x25, x26, x27, x28, x29, x30, .slice a n cp, .pointer (some ⟨g, 0, none⟩), .agg #[.string k.s.user, .slice k.s.ta k.s.tn k.s.tc, iv k.s.role], .pointer (some ⟨g, 3, none⟩), .string k.ch, .slice (some ⟨q0, 0, none⟩) 0 0, .slice pa pn pc, .slice qa pn qc, .pointer (some ⟨g, 5, none⟩), iv k.right, .slice fa fn fc, x42, x43, x44, x45, x46, x47, x48, x49, x50, x51, x52, x53, x54, x55, x56, x57, x58, x59, x60, x61, x62, x63, x64, x65, x66, x67, x68, x69, x70, x71, x72], defers := ds } V1) :
    (Code.region 9 #[{ dst := some 31, op := Op.move (Operand.tmp 0), type := 22, pos := "law.go:118", after := #[], guard := none }, { dst := some 32, op := Op.fieldAddr 27 (Operand.tmp 4) 0, type := 0, pos := "law.go:118", after := #[], guard := none }, { dst := some 33, op := Op.load 25 (Operand.tmp 32), type := 25, pos := "law.go:118", after := #[{ on := 1, ground := Ground.data }], guard := none }, { dst := some 34, op := Op.fieldAddr 27 (Operand.tmp 4) 1, type := 0, pos := "law.go:118", after := #[], guard := none }, { dst := some 35, op := Op.load 9 (Operand.tmp 34), type := 9, pos := "law.go:118", after := #[{ on := 3, ground := Ground.data }], guard := none }, { dst := some 36, op := Op.buildSlice 23 0 #[], type := 23, pos := "law.go:118", after := #[], guard := none }, { dst := some 37, op := Op.move (Operand.tmp 2), type := 23, pos := "law.go:118", after := #[], guard := none }, { dst := some 38, op := Op.call { callee := Callee.builtin Builtin.append, args := #[Operand.tmp 36, Operand.tmp 37], argTypes := #[23, 23] }, type := 23, pos := "law.go:118", after := #[{ on := 5, ground := Ground.data }, { on := 6, ground := Ground.data }], guard := none }, { dst := some 39, op := Op.fieldAddr 27 (Operand.tmp 4) 3, type := 0, pos := "law.go:118", after := #[], guard := none }, { dst := some 40, op := Op.load 3 (Operand.tmp 39), type := 3, pos := "law.go:118", after := #[{ on := 8, ground := Ground.data }], guard := none }, { dst := some 41, op := Op.call { callee := Callee.value (Operand.func 19), args := #[Operand.tmp 31, Operand.tmp 33, Operand.tmp 35, Operand.tmp 38, Operand.tmp 40], argTypes := #[22, 25, 9, 23, 3] }, type := 23, pos := "law.go:118", after := #[{ on := 0, ground := Ground.data }, { on := 2, ground := Ground.data }, { on := 4, ground := Ground.data }, { on := 7, ground := Ground.data }, { on := 9, ground := Ground.data }, { on := 7, ground := Ground.chain }], guard := none }, { dst := some 9, op := Op.assign (Operand.tmp 41), type := 23, pos := "law.go:118", after := #[{ on := 10, ground := Ground.data }, { on := 10, ground := Ground.chain }, { on := 0, ground := Ground.phase }, { on := 1, ground := Ground.phase }, { on := 2, ground := Ground.phase }, { on := 3, ground := Ground.phase }, { on := 4, ground := Ground.phase }, { on := 5, ground := Ground.phase }, { on := 6, ground := Ground.phase }, { on := 7, ground := Ground.phase }, { on := 8, ground := Ground.phase }, { on := 9, ground := Ground.phase }, { on := 10, ground := Ground.phase }], guard := none }] true).wp Try.prog Q { tmps := #[.slice a n cp, x1, .slice pa pn pc, x3, .pointer (some ⟨g, 0, none⟩), x5, x6, x7, x8, x9, x10, x11, x12, x13, x14, x15, x16, x17, x18, x19, x20, x21, x22, x23, x24, x25, x26, x27, x28, x29, x30, x31, x32, x33, x34, x35, x36, x37, x38, x39, x40, x41, x42, x43, x44, x45, x46, x47, x48, x49, x50, x51, x52, x53, x54, x55, x56, x57, x58, x59, x60, x61, x62, x63, x64, x65, x66, x67, x68, x69, x70, x71, x72], defers := ds } A := by
  refine Code.wp_mono (Q := fun x a' w' => match x with | .normal => Q .normal a' w' | _ => False) (by intro x a' w' h; cases x <;> first | exact h | exact h.elim) ?_
  refine wp_region_held (S := fun V => Below A.heap.size A V) (by kernel_rfl) ?_
  have hS0 : Hid (Below A.heap.size A A.drew) := below_drew0 A
  change wpAnyH Try.prog .any _ _ (fun V => Below A.heap.size A V) 12 (Array.replicate 12 false) _ A.drew
  obtain ⟨V0, hV0⟩ : ∃ V0, A.drew = V0 := ⟨_, rfl⟩
  rw [hV0]
  rw [hV0] at hS0
  clear hV0
  refine wpAnyH_take (i := 0) (oi := { dst := some 31, op := Op.move (Operand.tmp 0), type := 22, pos := "law.go:118", after := #[], guard := none }) (v := .slice a n cp) rfl (by kernel_rfl) (by kernel_rfl) (by kernel_rfl) (fun _ _ _ h => h.elim) (Or.inl ⟨by rfl, ?y1⟩) hS0.out ?_
  case y1 =>
    intro V hV
    go_simp
  simp only [Act.put, List.setIfInBounds_toArray, List.set_cons_zero, List.set_cons_succ]
  refine wpAnyH_take (i := 1) (oi := { dst := some 32, op := Op.fieldAddr 27 (Operand.tmp 4) 0, type := 0, pos := "law.go:118", after := #[], guard := none }) (v := .pointer (some ⟨g, 0, none⟩)) rfl (by kernel_rfl) (by kernel_rfl) (by kernel_rfl) (fun _ _ _ h => h.elim) (Or.inl ⟨by rfl, ?y2⟩) hS0.out ?_
  case y2 =>
    intro V hV
    go_simp
  simp only [Act.put, List.setIfInBounds_toArray, List.set_cons_zero, List.set_cons_succ]
  refine wpAnyH_take (i := 2) (oi := { dst := some 33, op := Op.load 25 (Operand.tmp 32), type := 25, pos := "law.go:118", after := #[{ on := 1, ground := Ground.data }], guard := none }) (v := .agg #[.string k.s.user, .slice k.s.ta k.s.tn k.s.tc, iv k.s.role]) rfl (by kernel_rfl) (by kernel_rfl) (by kernel_rfl) (fun _ _ _ h => h.elim) (yieldsIf_load_mid (by rfl) _ _ rfl _ _ rfl ([.string k.s.user, .slice k.s.ta k.s.tn k.s.tc, iv k.s.role]) _ (fun V hV => rangeAt_same (HA.out.range 0 3) ((show Below A.heap.size A V from hV).block _ (HA.out.lt))) Try.underlying25 rfl (size25)) hS0.out ?_
  simp only [Act.put, List.setIfInBounds_toArray, List.set_cons_zero, List.set_cons_succ]
  refine wpAnyH_take (i := 3) (oi := { dst := some 34, op := Op.fieldAddr 27 (Operand.tmp 4) 1, type := 0, pos := "law.go:118", after := #[], guard := none }) (v := .pointer (some ⟨g, 3, none⟩)) rfl (by kernel_rfl) (by kernel_rfl) (by kernel_rfl) (fun _ _ _ h => h.elim) (Or.inl ⟨by rfl, ?y3⟩) hS0.out ?_
  case y3 =>
    intro V hV
    go_simp
  simp only [Act.put, List.setIfInBounds_toArray, List.set_cons_zero, List.set_cons_succ]
  refine wpAnyH_take (i := 4) (oi := { dst := some 35, op := Op.load 9 (Operand.tmp 34), type := 9, pos := "law.go:118", after := #[{ on := 3, ground := Ground.data }], guard := none }) (v := .string k.ch) rfl (by kernel_rfl) (by kernel_rfl) (by kernel_rfl) (fun _ _ _ h => h.elim) (Or.inl ⟨by rfl, ?y4⟩) hS0.out ?_
  case y4 =>
    intro V hV
    have hc : V.cell? ⟨g, 3, none⟩ = some (.string k.ch) := ((show Below A.heap.size A V from hV).cell (p := ⟨g, 3, none⟩) HA.out.lt).trans (HA.out.cell rfl)
    go_simp
  simp only [Act.put, List.setIfInBounds_toArray, List.set_cons_zero, List.set_cons_succ]
  refine wpAnyH_take (i := 6) (oi := { dst := some 37, op := Op.move (Operand.tmp 2), type := 23, pos := "law.go:118", after := #[], guard := none }) (v := .slice pa pn pc) rfl (by kernel_rfl) (by kernel_rfl) (by kernel_rfl) (fun _ _ _ h => h.elim) (Or.inl ⟨by rfl, ?y5⟩) hS0.out ?_
  case y5 =>
    intro V hV
    go_simp
  simp only [Act.put, List.setIfInBounds_toArray, List.set_cons_zero, List.set_cons_succ]
  refine wpAnyH_take (i := 8) (oi := { dst := some 39, op := Op.fieldAddr 27 (Operand.tmp 4) 3, type := 0, pos := "law.go:118", after := #[], guard := none }) (v := .pointer (some ⟨g, 5, none⟩)) rfl (by kernel_rfl) (by kernel_rfl) (by kernel_rfl) (fun _ _ _ h => h.elim) (Or.inl ⟨by rfl, ?y6⟩) hS0.out ?_
  case y6 =>
    intro V hV
    go_simp
  simp only [Act.put, List.setIfInBounds_toArray, List.set_cons_zero, List.set_cons_succ]
  refine wpAnyH_take (i := 9) (oi := { dst := some 40, op := Op.load 3 (Operand.tmp 39), type := 3, pos := "law.go:118", after := #[{ on := 8, ground := Ground.data }], guard := none }) (v := iv k.right) rfl (by kernel_rfl) (by kernel_rfl) (by kernel_rfl) (fun _ _ _ h => h.elim) (Or.inl ⟨by rfl, ?y7⟩) hS0.out ?_
  case y7 =>
    intro V hV
    have hc : V.cell? ⟨g, 5, none⟩ = some (iv k.right) := ((show Below A.heap.size A V from hV).cell (p := ⟨g, 5, none⟩) HA.out.lt).trans (HA.out.cell rfl)
    go_simp
  simp only [Act.put, List.setIfInBounds_toArray, List.set_cons_zero, List.set_cons_succ]
  refine wpAnyH_ready (rs := [5]) (by kernel_rfl) (by simp) (AllReadyH.cons (i := 5) (o := { dst := some 36, op := Op.buildSlice 23 0 #[], type := 23, pos := "law.go:118", after := #[], guard := none }) rfl ?_ AllReadyH.nil)
  · intro K1 hK1
    rw [if_pos (by rfl)]
    obtain ⟨V1, hv1⟩ : ∃ V, V0.alloc (.cells #[] 9) = V := ⟨_, rfl⟩
    obtain ⟨q1, hq1⟩ : ∃ q, V0.heap.size = q := ⟨_, rfl⟩
    have hb1 : Hid (Below V0.heap.size V0 V1) := by rw [← hv1]; exact below_al _ _
    have hS1 : Hid (Below A.heap.size A V1) := hS0.out.trans (hb1.out.mono hS0.out.size)
    go_wp2
    clear hv1 hq1 hb1
    refine hK1.out _ _ hS1.out ?_
    clear hK1
    intro _
    try simp only [Act.put, List.setIfInBounds_toArray, List.set_cons_zero, List.set_cons_succ]
    refine wpAnyH_ready (rs := [7]) (by kernel_rfl) (by simp) (AllReadyH.cons (i := 7) (o := { dst := some 38, op := Op.call { callee := Callee.builtin Builtin.append, args := #[Operand.tmp 36, Operand.tmp 37], argTypes := #[23, 23] }, type := 23, pos := "law.go:118", after := #[{ on := 5, ground := Ground.data }, { on := 6, ground := Ground.data }], guard := none }) rfl ?_ AllReadyH.nil)
    · intro K1 hK1
      refine step_append_bs (by rfl) 38 rfl (.tmp 36) (.tmp 37) 23 rfl V1 9 i0 _ 1 V1.heap.size Try.underlying23 HI0.out.1 HI0.out.2.1 HI0.out.2.2.1 HI0.out.2.2.2 rfl (by omega) (.slice (some ⟨q1, 0, none⟩) 0 0) 0 [] (.inl ⟨_, rfl, Rd.nil _ _ _ _, .inr ⟨q1, 0, rfl⟩⟩) pa pn pc (fs ps) rfl rfl ((HP.out.1.below hS1.out).rd) (Nat.le_refl _) (by have := HP.out.2.1; omega) ?_
      intro v2 V2 hb2 hw2
      obtain ⟨a2, c2, he2, _, hrd2, _⟩ := hb2.out.read
      rw [Nat.zero_add] at he2 hrd2
      subst he2
      have SS2 : Hid (Strs V2 a2 pn ps) := Strs.of hrd2
      have hS2 : Hid (Below A.heap.size A V2) := hS1.out.trans (hw2.out.mono hS1.out.size)
      clear hb2 hw2 hrd2
      refine hK1.out _ _ hS2.out ?_
      clear hK1
      intro _
      try simp only [Act.put, List.setIfInBounds_toArray, List.set_cons_zero, List.set_cons_succ]
      refine wpAnyH_ready (rs := [10]) (by kernel_rfl) (by simp) (AllReadyH.cons (i := 10) (o := { dst := some 41, op := Op.call { callee := Callee.value (Operand.func 19), args := #[Operand.tmp 31, Operand.tmp 33, Operand.tmp 35, Operand.tmp 38, Operand.tmp 40], argTypes := #[22, 25, 9, 23, 3] }, type := 23, pos := "law.go:118", after := #[{ on := 0, ground := Ground.data }, { on := 2, ground := Ground.data }, { on := 4, ground := Ground.data }, { on := 7, ground := Ground.data }, { on := 9, ground := Ground.data }, { on := 7, ground := Ground.chain }], guard := none }) rfl ?_ AllReadyH.nil)
      · intro K1 hK1
        rw [if_pos (by rfl)]
        have HC3 := filter_is l a n cp k.s k.ch ps a2 pn c2 k.right V2 (HL.out.1.below hS2.out) HL.out.2 (HK.out.1.below hS2.out).1 SS2.out HP.out.2.1 HP.out.2.2
        go_wp2_with fail
        refine HC3.mono ?_
        rintro e V3 ⟨fa3, fn3, fc3, rfl, hs3, hb3⟩
        dsimp only
        clear HC3
        have hS3 : Hid (Below A.heap.size A V3) := hS2.out.trans (hb3.mono hS2.out.size)
        clear hb3
        refine hK1.out _ _ hS3.out ?_
        clear hK1
        intro _
        try simp only [Act.put, List.setIfInBounds_toArray, List.set_cons_zero, List.set_cons_succ]
        refine wpAnyH_take (i := 11) (oi := { dst := some 9, op := Op.assign (Operand.tmp 41), type := 23, pos := "law.go:118", after := #[{ on := 10, ground := Ground.data }, { on := 10, ground := Ground.chain }, { on := 0, ground := Ground.phase }, { on := 1, ground := Ground.phase }, { on := 2, ground := Ground.phase }, { on := 3, ground := Ground.phase }, { on := 4, ground := Ground.phase }, { on := 5, ground := Ground.phase }, { on := 6, ground := Ground.phase }, { on := 7, ground := Ground.phase }, { on := 8, ground := Ground.phase }, { on := 9, ground := Ground.phase }, { on := 10, ground := Ground.phase }], guard := none }) (v := .slice fa3 fn3 fc3) rfl (by kernel_rfl) (by kernel_rfl) (by kernel_rfl) (fun _ _ _ h => h.elim) (Or.inl ⟨by rfl, ?y8⟩) hS3.out ?_
        case y8 =>
          intro V hV
          go_simp
        simp only [Act.put, List.setIfInBounds_toArray, List.set_cons_zero, List.set_cons_succ]
        refine wpAnyH_done (by kernel_rfl) ?_ _
        exact hQ V3 q1 a2 c2 fa3 fn3 fc3 hS3.out hs3
#print axioms fil_reg9
end Go.Proofs.Ytngkajeghmogmaa.Oct
