/-
  Layer 20 (review): the reference's Same, of what is the same.
-/
import Derived.Test.YtaecigpjcbjcbaaTxs
namespace Go.Proofs.Ytaecigpjcbjcbaa.Oct
open Go.RowKit
set_option linter.unusedSimpArgs false
set_option linter.unusedVariables false

/-- remarks that are read -/
def Prs (w : World) (a : Option Addr) (n : Nat) (l : List (BA × BA)) : Prop :=
  l.length = n ∧ (0 < n → ∃ b off, a = some ⟨b, off, none⟩ ∧ b < w.heap.size ∧ ∀ i (x : BA × BA), l[i]? = some x → w.rangeAt b (off + i * 2) [.string x.1, .string x.2])
theorem Prs.below {w w' : World} {a : Option Addr} {n : Nat} {l : List (BA × BA)} (h : Prs w a n l) (hb : Below w.heap.size w w') : Prs w' a n l := by
  refine ⟨h.1, fun hp => ?_⟩
  obtain ⟨b, off, e1, e2, e3⟩ := h.2 hp
  exact ⟨b, off, e1, Nat.lt_of_lt_of_le e2 hb.size, fun i c hc => rangeAt_same (e3 i c hc) (hb.block b e2)⟩
theorem size50 : (Try.prog.info? 50).map (·.size) = some 2 := by kernel_rfl
theorem eqP (x : BA × BA) (W : World) : (binOp BinOp.neq 50 (.agg #[.string x.1, .string x.2]) (.agg #[.string x.1, .string x.2])).run Try.prog W = .ok (.bool false) W := by
  go_simp
set_option maxRecDepth 100000 in
set_option maxHeartbeats 4000000 in
theorem same6 {Q : Exit → Act → World → Prop} {x0 x1 x4 x6 x7 x8 x9 x10 x11 x12 x13 x14 x15 x16 x17 x18 x19 x20 x21 x22 x23 x24 x25 x26 x27 x28 x29 x30 x31 x32 x33 x34 x35 x36 x37 x38 x39 x40 x41 x42 x43 x44 x45 x46 x47 x48 x49 x50 x51 x52 x53 x54 x55 x56 x57 x58 x59 x60 x61 x62 x63 x64 x65 x66 x67 x68 x69 x70 x71 x72 x73 x74 x75 x76 x77 : Value} {ds : List Deferred} {A : World} {g h b1 o1 b2 o2 n c1 c2 i : Nat} {x : BA × BA}
    (HL : Hid (g < A.heap.size ∧ h < A.heap.size ∧ b1 < A.heap.size ∧ b2 < A.heap.size)) (k1 : A.cell? ⟨g, 38, none⟩ = some (.slice (some ⟨b1, o1, none⟩) n c1)) (k2 : A.cell? ⟨h, 38, none⟩ = some (.slice (some ⟨b2, o2, none⟩) n c2)) (HR : Hid (A.rangeAt b1 (o1 + i * 2) [.string x.1, .string x.2] ∧ A.rangeAt b2 (o2 + i * 2) [.string x.1, .string x.2])) (q1 : (i : Int) < (n : Int)) (q2 : i < n)
    (hQ : ∀ V1, Below A.heap.size A V1 → Q .normal { tmps := #[x0, x1, .pointer (some ⟨g, 0, none⟩), .pointer (some ⟨h, 0, none⟩), x4, iv (i : Int), x6, x7, x8, x9, x10, x11, x12, x13, x14, x15, x16, x17, x18, x19, x20, x21, x22, x23, x24, x25, x26, x27, x28, x29, x30, x31, x32, x33, x34, x35, x36, x37, x38, x39, x40, x41, x42, x43, x44, x45, x46, x47, x48, x49, x50, x51, x52, x53, x54, .pointer (some ⟨g, 38, none⟩), .slice (some ⟨b1, o1, none⟩) n c1, iv (i : Int), .pointer (some ⟨b1, o1 + i * 2, none⟩), .agg #[.string x.1, .string x.2], .pointer (some ⟨h, 38, none⟩), .slice (some ⟨b2, o2, none⟩) n c2, iv (i : Int), .pointer (some ⟨b2, o2 + i * 2, none⟩), .agg #[.string x.1, .string x.2], .bool false, x66, x67, x68, x69, x70, x71, x72, x73, x74, x75, x76, x77], defers := ds } V1) :
    (Code.region 6 #[{ dst := some 55, op := Op.fieldAddr 43 (Operand.tmp 2) 7, type := 0, pos := "ref.go:204", after := #[], guard := none }, { dst := some 56, op := Op.load 41 (Operand.tmp 55), type := 41, pos := "ref.go:204", after := #[{ on := 0, ground := Ground.data }], guard := none }, { dst := some 57, op := Op.move (Operand.tmp 5), type := 3, pos := "ref.go:204", after := #[], guard := none }, { dst := some 58, op := Op.indexAddr 41 (Operand.tmp 56) (Operand.tmp 57), type := 0, pos := "ref.go:204", after := #[{ on := 1, ground := Ground.data }, { on := 2, ground := Ground.data }], guard := none }, { dst := some 59, op := Op.load 50 (Operand.tmp 58), type := 50, pos := "ref.go:204", after := #[{ on := 3, ground := Ground.data }], guard := none }, { dst := some 60, op := Op.fieldAddr 43 (Operand.tmp 3) 7, type := 0, pos := "ref.go:204", after := #[], guard := none }, { dst := some 61, op := Op.load 41 (Operand.tmp 60), type := 41, pos := "ref.go:204", after := #[{ on := 5, ground := Ground.data }], guard := none }, { dst := some 62, op := Op.move (Operand.tmp 5), type := 3, pos := "ref.go:204", after := #[], guard := none }, { dst := some 63, op := Op.indexAddr 41 (Operand.tmp 61) (Operand.tmp 62), type := 0, pos := "ref.go:204", after := #[{ on := 6, ground := Ground.data }, { on := 7, ground := Ground.data }], guard := none }, { dst := some 64, op := Op.load 50 (Operand.tmp 63), type := 50, pos := "ref.go:204", after := #[{ on := 8, ground := Ground.data }], guard := none }, { dst := some 65, op := Op.binOp BinOp.neq 50 (Operand.tmp 59) (Operand.tmp 64) 50, type := 4, pos := "ref.go:204", after := #[{ on := 4, ground := Ground.data }, { on := 9, ground := Ground.data }], guard := none }] true).wp Try.prog Q { tmps := #[x0, x1, .pointer (some ⟨g, 0, none⟩), .pointer (some ⟨h, 0, none⟩), x4, iv (i : Int), x6, x7, x8, x9, x10, x11, x12, x13, x14, x15, x16, x17, x18, x19, x20, x21, x22, x23, x24, x25, x26, x27, x28, x29, x30, x31, x32, x33, x34, x35, x36, x37, x38, x39, x40, x41, x42, x43, x44, x45, x46, x47, x48, x49, x50, x51, x52, x53, x54, x55, x56, x57, x58, x59, x60, x61, x62, x63, x64, x65, x66, x67, x68, x69, x70, x71, x72, x73, x74, x75, x76, x77], defers := ds } A := by
  refine Code.wp_mono (Q := fun x a' w' => match x with | .normal => Q .normal a' w' | _ => False) (by intro x a' w' h; cases x <;> first | exact h | exact h.elim) ?_
  refine wp_region_held (S := fun V => Below A.heap.size A V) (by kernel_rfl) ?_
  have hS0 : Hid (Below A.heap.size A A.drew) := below_drew0 A
  change wpAnyH Try.prog .any _ _ (fun V => Below A.heap.size A V) 11 (Array.replicate 11 false) _ A.drew
  obtain ⟨V0, hV0⟩ : ∃ V0, A.drew = V0 := ⟨_, rfl⟩
  rw [hV0]
  rw [hV0] at hS0
  clear hV0
  refine wpAnyH_take (i := 0) (oi := { dst := some 55, op := Op.fieldAddr 43 (Operand.tmp 2) 7, type := 0, pos := "ref.go:204", after := #[], guard := none }) (v := .pointer (some ⟨g, 38, none⟩)) rfl (by kernel_rfl) (by kernel_rfl) (by kernel_rfl) (fun _ _ _ h => h.elim) (Or.inl ⟨by rfl, ?y1⟩) hS0.out ?_
  case y1 =>
    intro V hV
    go_simp
  simp only [Act.put, List.setIfInBounds_toArray, List.set_cons_zero, List.set_cons_succ]
  refine wpAnyH_take (i := 1) (oi := { dst := some 56, op := Op.load 41 (Operand.tmp 55), type := 41, pos := "ref.go:204", after := #[{ on := 0, ground := Ground.data }], guard := none }) (v := .slice (some ⟨b1, o1, none⟩) n c1) rfl (by kernel_rfl) (by kernel_rfl) (by kernel_rfl) (fun _ _ _ h => h.elim) (Or.inl ⟨by rfl, ?y2⟩) hS0.out ?_
  case y2 =>
    intro V hV
    have hc : V.cell? ⟨g, 38, none⟩ = some (.slice (some ⟨b1, o1, none⟩) n c1) := ((show Below A.heap.size A V from hV).cell (p := ⟨g, 38, none⟩) HL.out.1).trans k1
    go_simp
  simp only [Act.put, List.setIfInBounds_toArray, List.set_cons_zero, List.set_cons_succ]
  refine wpAnyH_take (i := 2) (oi := { dst := some 57, op := Op.move (Operand.tmp 5), type := 3, pos := "ref.go:204", after := #[], guard := none }) (v := iv (i : Int)) rfl (by kernel_rfl) (by kernel_rfl) (by kernel_rfl) (fun _ _ _ h => h.elim) (Or.inl ⟨by rfl, ?y3⟩) hS0.out ?_
  case y3 =>
    intro V hV
    go_simp
  simp only [Act.put, List.setIfInBounds_toArray, List.set_cons_zero, List.set_cons_succ]
  refine wpAnyH_take (i := 3) (oi := { dst := some 58, op := Op.indexAddr 41 (Operand.tmp 56) (Operand.tmp 57), type := 0, pos := "ref.go:204", after := #[{ on := 1, ground := Ground.data }, { on := 2, ground := Ground.data }], guard := none }) (v := .pointer (some ⟨b1, o1 + i * 2, none⟩)) rfl (by kernel_rfl) (by kernel_rfl) (by kernel_rfl) (fun _ _ _ h => h.elim) (Or.inl ⟨by rfl, ?y4⟩) hS0.out ?_
  case y4 =>
    intro V hV
    have hcmp := q1
    have hcmp2 := q2
    go_simp
  simp only [Act.put, List.setIfInBounds_toArray, List.set_cons_zero, List.set_cons_succ]
  refine wpAnyH_take (i := 4) (oi := { dst := some 59, op := Op.load 50 (Operand.tmp 58), type := 50, pos := "ref.go:204", after := #[{ on := 3, ground := Ground.data }], guard := none }) (v := .agg #[.string x.1, .string x.2]) rfl (by kernel_rfl) (by kernel_rfl) (by kernel_rfl) (fun _ _ _ h => h.elim) (yieldsIf_load_mid (by rfl) _ _ rfl _ _ rfl ([.string x.1, .string x.2]) _ (fun V hV => rangeAt_same (HR.out.1) ((show Below A.heap.size A V from hV).block _ (HL.out.2.2.1))) Try.underlying50 rfl (size50)) hS0.out ?_
  simp only [Act.put, List.setIfInBounds_toArray, List.set_cons_zero, List.set_cons_succ]
  refine wpAnyH_take (i := 5) (oi := { dst := some 60, op := Op.fieldAddr 43 (Operand.tmp 3) 7, type := 0, pos := "ref.go:204", after := #[], guard := none }) (v := .pointer (some ⟨h, 38, none⟩)) rfl (by kernel_rfl) (by kernel_rfl) (by kernel_rfl) (fun _ _ _ h => h.elim) (Or.inl ⟨by rfl, ?y5⟩) hS0.out ?_
  case y5 =>
    intro V hV
    go_simp
  simp only [Act.put, List.setIfInBounds_toArray, List.set_cons_zero, List.set_cons_succ]
  refine wpAnyH_take (i := 6) (oi := { dst := some 61, op := Op.load 41 (Operand.tmp 60), type := 41, pos := "ref.go:204", after := #[{ on := 5, ground := Ground.data }], guard := none }) (v := .slice (some ⟨b2, o2, none⟩) n c2) rfl (by kernel_rfl) (by kernel_rfl) (by kernel_rfl) (fun _ _ _ h => h.elim) (Or.inl ⟨by rfl, ?y6⟩) hS0.out ?_
  case y6 =>
    intro V hV
    have hc : V.cell? ⟨h, 38, none⟩ = some (.slice (some ⟨b2, o2, none⟩) n c2) := ((show Below A.heap.size A V from hV).cell (p := ⟨h, 38, none⟩) HL.out.2.1).trans k2
    go_simp
  simp only [Act.put, List.setIfInBounds_toArray, List.set_cons_zero, List.set_cons_succ]
  refine wpAnyH_take (i := 7) (oi := { dst := some 62, op := Op.move (Operand.tmp 5), type := 3, pos := "ref.go:204", after := #[], guard := none }) (v := iv (i : Int)) rfl (by kernel_rfl) (by kernel_rfl) (by kernel_rfl) (fun _ _ _ h => h.elim) (Or.inl ⟨by rfl, ?y7⟩) hS0.out ?_
  case y7 =>
    intro V hV
    go_simp
  simp only [Act.put, List.setIfInBounds_toArray, List.set_cons_zero, List.set_cons_succ]
  refine wpAnyH_take (i := 8) (oi := { dst := some 63, op := Op.indexAddr 41 (Operand.tmp 61) (Operand.tmp 62), type := 0, pos := "ref.go:204", after := #[{ on := 6, ground := Ground.data }, { on := 7, ground := Ground.data }], guard := none }) (v := .pointer (some ⟨b2, o2 + i * 2, none⟩)) rfl (by kernel_rfl) (by kernel_rfl) (by kernel_rfl) (fun _ _ _ h => h.elim) (Or.inl ⟨by rfl, ?y8⟩) hS0.out ?_
  case y8 =>
    intro V hV
    have hcmp := q1
    have hcmp2 := q2
    go_simp
  simp only [Act.put, List.setIfInBounds_toArray, List.set_cons_zero, List.set_cons_succ]
  refine wpAnyH_take (i := 9) (oi := { dst := some 64, op := Op.load 50 (Operand.tmp 63), type := 50, pos := "ref.go:204", after := #[{ on := 8, ground := Ground.data }], guard := none }) (v := .agg #[.string x.1, .string x.2]) rfl (by kernel_rfl) (by kernel_rfl) (by kernel_rfl) (fun _ _ _ h => h.elim) (yieldsIf_load_mid (by rfl) _ _ rfl _ _ rfl ([.string x.1, .string x.2]) _ (fun V hV => rangeAt_same (HR.out.2) ((show Below A.heap.size A V from hV).block _ (HL.out.2.2.2))) Try.underlying50 rfl (size50)) hS0.out ?_
  simp only [Act.put, List.setIfInBounds_toArray, List.set_cons_zero, List.set_cons_succ]
  refine wpAnyH_take (i := 10) (oi := { dst := some 65, op := Op.binOp BinOp.neq 50 (Operand.tmp 59) (Operand.tmp 64) 50, type := 4, pos := "ref.go:204", after := #[{ on := 4, ground := Ground.data }, { on := 9, ground := Ground.data }], guard := none }) (v := .bool false) rfl (by kernel_rfl) (by kernel_rfl) (by kernel_rfl) (fun _ _ _ h => h.elim) (Or.inl ⟨by rfl, ?y9⟩) hS0.out ?_
  case y9 =>
    intro V hV
    have hcmp := eqP x V
    go_simp
  simp only [Act.put, List.setIfInBounds_toArray, List.set_cons_zero, List.set_cons_succ]
  refine wpAnyH_done (by kernel_rfl) ?_ _
  exact hQ V0 hS0.out
#print axioms same6
theorem beq_self (s : BA) : (s.toList == s.toList) = true := by simp
theorem bne_self (s : BA) : (s.toList != s.toList) = false := by simp
set_option maxRecDepth 100000 in
set_option maxHeartbeats 4000000 in
theorem same_same (p : Pp) (y n t : Sl) (yes no : List BA) (tk : List (BA × BA)) (w : World) (hl : p.patch.length = 32) (hy : Strs w p.y.a p.y.n yes) (hn : Strs w p.n.a p.n.n no) (ht : Prs w p.t.a p.t.n tk) (hy' : Strs w y.a y.n yes) (hn' : Strs w n.a n.n no) (ht' : Prs w t.a t.n tk) (hb : yes.length ≤ 1000000 ∧ no.length ≤ 1000000 ∧ tk.length ≤ 1000000) :
    Calls Try.prog 18 #[.agg p.cells.toArray, .agg ({ p with y := y, n := n, t := t } : Pp).cells.toArray] w fun e w' => e = .returned (.bool true) ∧ Below w.heap.size w w' := by
  obtain ⟨p', hp'⟩ : ∃ p', ({ p with y := y, n := n, t := t } : Pp) = p' := ⟨_, rfl⟩
  have hl' : p'.patch.length = 32 := by rw [← hp']; exact hl
  have HE : Hid (p'.id = p.id ∧ p'.author = p.author ∧ p'.channel = p.channel ∧ p'.patch = p.patch ∧ p'.opn = p.opn ∧ p'.y = y ∧ p'.n = n ∧ p'.t = t) := by rw [← hp']; exact ⟨rfl, rfl, rfl, rfl, rfl, rfl, rfl, rfl⟩
  rw [hp']
  obtain ⟨cp, hcp⟩ : ∃ cp, p.cells = cp := ⟨_, rfl⟩
  obtain ⟨cq, hcq⟩ : ∃ cp, p'.cells = cp := ⟨_, rfl⟩
  obtain ⟨W1, hW1⟩ : ∃ W1, w.alloc (.cells cp.toArray 43) = W1 := ⟨_, rfl⟩
  obtain ⟨W2, hW2⟩ : ∃ W2, W1.alloc (.cells cq.toArray 43) = W2 := ⟨_, rfl⟩
  have hB1 : Below w.heap.size w W1 := by rw [← hW1]; exact below_al _ _
  have hB2 : Below W1.heap.size W1 W2 := by rw [← hW2]; exact below_al _ _
  have HB : Hid (Below w.heap.size w W2) := below_tr hB1 hB2
  obtain ⟨g, hg⟩ : ∃ g, w.heap.size = g := ⟨_, rfl⟩
  obtain ⟨h, hh⟩ : ∃ q, W1.heap.size = q := ⟨_, rfl⟩
  have hr1 : W1.rangeAt g 0 p.cells := by rw [← hg, ← hW1, hcp]; exact range_new _ _ _
  have hgl : g < W1.heap.size := by rw [← hg, ← hW1]; simp
  have hr2 : W2.rangeAt g 0 p.cells := rangeAt_same hr1 (hB2.block g hgl)
  have hr3 : W2.rangeAt h 0 p'.cells := by rw [← hh, ← hW2, hcq]; exact range_new _ _ _
  have hhl : h < W2.heap.size := by rw [← hh, ← hW2]; simp
  obtain ⟨a0, a1, a2, a3, a35, a36, a37, a38⟩ := Pp.cell hl hr2
  obtain ⟨d0, d1, d2, d3, d35, d36, d37, d38⟩ := Pp.cell hl' hr3
  rw [HE.out.1] at d0
  rw [HE.out.2.1] at d1
  rw [HE.out.2.2.1] at d2
  rw [HE.out.2.2.2.1] at d3
  rw [HE.out.2.2.2.2.1] at d35
  rw [HE.out.2.2.2.2.2.1] at d36
  rw [HE.out.2.2.2.2.2.2.1] at d37
  rw [HE.out.2.2.2.2.2.2.2] at d38
  have HG : Hid (g < W2.heap.size ∧ h < W2.heap.size) := ⟨Nat.lt_of_lt_of_le hgl hB2.size, hhl⟩
  have HP : Hid (W2.rangeAt g 3 (U p.patch) ∧ W2.rangeAt h 3 (U p.patch)) := ⟨a3, d3⟩
  have e1 : p.t.n = tk.length := ht.1.symm
  have e2 : t.n = tk.length := ht'.1.symm
  have HT : Hid (Prs W2 p.t.a tk.length tk ∧ Prs W2 t.a tk.length tk) := ⟨by rw [← e1]; exact ht.below HB.out, by rw [← e2]; exact ht'.below HB.out⟩
  have HS : Hid (Strs W2 p.y.a p.y.n yes ∧ Strs W2 y.a y.n yes ∧ Strs W2 p.n.a p.n.n no ∧ Strs W2 n.a n.n no ∧ yes.length ≤ 1000000 ∧ no.length ≤ 1000000 ∧ tk.length ≤ 1000000) := ⟨hy.below HB.out, hy'.below HB.out, hn.below HB.out, hn'.below HB.out, hb⟩
  rw [e1] at a38
  rw [e2] at d38
  obtain ⟨n0, hn0⟩ : ∃ n, tk.length = n := ⟨_, rfl⟩
  rw [hn0] at a38 d38 HT
  have HN0 : Hid (tk.length = n0) := hn0
  have qn : (n0 : Int) ≤ 1000000 := by have := hb.2.2; omega
  have heq := eqH p.patch p.patch hl hl W2
  rw [decide_eq_true rfl] at heq
  have HPL : Hid (p.patch.length = 32) := hl
  obtain ⟨UL, hUL⟩ : ∃ L, U p.patch = L := ⟨_, rfl⟩
  have HUL : Hid (U p.patch = UL) := hUL
  rw [hUL] at heq
  rw [hcp, hcq]
  have HF38 : Hid (W2.cell? ⟨g, 38, none⟩ = some (.slice p.t.a n0 p.t.c) ∧ W2.cell? ⟨h, 38, none⟩ = some (.slice t.a n0 t.c) ∧ W2.cell? ⟨g, 36, none⟩ = some (.slice p.y.a p.y.n p.y.c) ∧ W2.cell? ⟨h, 36, none⟩ = some (.slice y.a y.n y.c) ∧ W2.cell? ⟨g, 37, none⟩ = some (.slice p.n.a p.n.n p.n.c) ∧ W2.cell? ⟨h, 37, none⟩ = some (.slice n.a n.n n.c)) := ⟨a38, d38, a36, d36, a37, d37⟩
  have b1 := beq_self p.author
  have b2 := bne_self p.author
  have b3 := beq_self p.channel
  have b4 := bne_self p.channel
  clear hl hy hn ht hy' hn' ht' hb hp' hl' hcp hcq hB1 hB2 hr1 hgl hr2 hr3 hhl a3 d3 hn0 e1 e2 hUL a36 a37 d36 d37
  go_enter Try.func18, Try.ntmps18
  go_wp2_with (with_reducible change wpList _ _ _ ({ dst := some 27, op := _, type := _, pos := _, after := _, guard := _ } :: _) _ _; refine Hid.out ?_)
  show wpList _ _ _ _ _ _
  refine wpList_load_want rfl 32 (.tmp 26) rfl g 3 rfl UL _ (by rw [← HUL.out]; exact HP.out.1) Try.underlying32 rfl (by rw [← HUL.out]; exact info32 _ HPL.out) ?_
  simp only [Act.put, List.setIfInBounds_toArray, List.set_cons_zero, List.set_cons_succ]
  go_wp2_with (with_reducible change wpList _ _ _ ({ dst := some 29, op := _, type := _, pos := _, after := _, guard := _ } :: _) _ _; refine Hid.out ?_)
  show wpList _ _ _ _ _ _
  refine wpList_load_want rfl 32 (.tmp 28) rfl h 3 rfl UL _ (by rw [← HUL.out]; exact HP.out.2) Try.underlying32 rfl (by rw [← HUL.out]; exact info32 _ HPL.out) ?_
  simp only [Act.put, List.setIfInBounds_toArray, List.set_cons_zero, List.set_cons_succ]
  go_wp2
  go_loopw [5] (fun u wr => ∃ i : Nat, u = iv i ∧ Hid (i ≤ n0 ∧ Below W2.heap.size W2 wr)) (fun u _ => n0 - (intOf u).toNat)
  case atStart => exact ⟨0, rfl, Nat.zero_le _, Below.refl _ _⟩
  case round =>
    obtain ⟨i, rfl, HI⟩ := hrel
    clear a0 a1 a2 a35 a38 d0 d1 d2 d35 d38
    have k1 : wr.cell? ⟨g, 38, none⟩ = some (.slice p.t.a n0 p.t.c) := (HI.out.2.cell (p := ⟨g, 38, none⟩) HG.out.1).trans HF38.out.1
    by_cases hi : i = n0
    · have q1 : (n0 : Int) ≤ (i : Int) := by omega
      have m1 : wr.cell? ⟨g, 36, none⟩ = some (.slice p.y.a p.y.n p.y.c) := (HI.out.2.cell (p := ⟨g, 36, none⟩) HG.out.1).trans HF38.out.2.2.1
      have m2 : wr.cell? ⟨h, 36, none⟩ = some (.slice y.a y.n y.c) := (HI.out.2.cell (p := ⟨h, 36, none⟩) HG.out.2).trans HF38.out.2.2.2.1
      have HTX := texts_same yes p.y y wr (HS.out.1.below HI.out.2) (HS.out.2.1.below HI.out.2) (by have := HS.out.2.2.2.2.1; omega)
      clear hi
      go_wp2_with fail
      refine HTX.mono ?_
      rintro e W3 ⟨rfl, hb3⟩
      have HB3 : Hid (Below W2.heap.size W2 W3) := below_tr HI.out.2 hb3
      have m3 : W3.cell? ⟨g, 37, none⟩ = some (.slice p.n.a p.n.n p.n.c) := (HB3.out.cell (p := ⟨g, 37, none⟩) HG.out.1).trans HF38.out.2.2.2.2.1
      have m4 : W3.cell? ⟨h, 37, none⟩ = some (.slice n.a n.n n.c) := (HB3.out.cell (p := ⟨h, 37, none⟩) HG.out.2).trans HF38.out.2.2.2.2.2
      have HTX2 := texts_same no p.n n W3 (HS.out.2.2.1.below HB3.out) (HS.out.2.2.2.1.below HB3.out) (by have := HS.out.2.2.2.2.2.1; omega)
      clear HTX hb3 m1 m2 k1
      go_wp2_with fail
      refine HTX2.mono ?_
      rintro e W4 ⟨rfl, hb4⟩
      have HB4 : Hid (Below w.heap.size w W4) := below_tr HB.out (below_tr HB3.out hb4)
      clear HTX2 hb4 m3 m4
      go_wp2_with fail
      go_ret
      exact ⟨rfl, HB4.out⟩
    · have q2 : i < n0 := by have := HI.out.1; omega
      have q1 : (i : Int) < (n0 : Int) := by omega
      have k2 : wr.cell? ⟨h, 38, none⟩ = some (.slice t.a n0 t.c) := (HI.out.2.cell (p := ⟨h, 38, none⟩) HG.out.2).trans HF38.out.2.1
      obtain ⟨c1, o1, ha, hb1, hc1⟩ := HT.out.1.2 (by omega)
      obtain ⟨c2, o2, hb, hb2, hc2⟩ := HT.out.2.2 (by omega)
      rw [ha] at k1
      rw [hb] at k2
      obtain ⟨x, hx⟩ : ∃ x, tk[i]? = some x := ⟨_, List.getElem?_eq_getElem (by rw [HN0.out]; exact q2)⟩
      have HLb : Hid (g < wr.heap.size ∧ h < wr.heap.size ∧ c1 < wr.heap.size ∧ c2 < wr.heap.size) := ⟨Nat.lt_of_lt_of_le HG.out.1 HI.out.2.size, Nat.lt_of_lt_of_le HG.out.2 HI.out.2.size, Nat.lt_of_lt_of_le hb1 HI.out.2.size, Nat.lt_of_lt_of_le hb2 HI.out.2.size⟩
      have HR : Hid (wr.rangeAt c1 (o1 + i * 2) [.string x.1, .string x.2] ∧ wr.rangeAt c2 (o2 + i * 2) [.string x.1, .string x.2]) := ⟨rangeAt_same (hc1 i x hx) (HI.out.2.block c1 hb1), rangeAt_same (hc2 i x hx) (HI.out.2.block c2 hb2)⟩
      have HQ : Hid (i < n0) := q2
      have k1' : wr.cell? ⟨g, 38, none⟩ = some (.slice p.t.a n0 p.t.c) := (HI.out.2.cell (p := ⟨g, 38, none⟩) HG.out.1).trans HF38.out.1
      clear hi hc1 hc2 hx hb1 hb2 k1
      rw [ha] at k1'
      clear ha hb
      go_wp2_with fail
      refine same6 HLb k1' k2 HR q1 q2 ?_
      intro V hV
      have HV : Hid (Below W2.heap.size W2 V) := below_tr HI.out.2 hV
      clear hV k1' k2
      go_wp2
      go_roundw
      case rel => exact ⟨i + 1, by simp, HQ.out, HV.out⟩
      case measure =>
        have := HQ.out
        simp only [intOf]
        omega
#print axioms same_same
end Go.Proofs.Ytaecigpjcbjcbaa.Oct
