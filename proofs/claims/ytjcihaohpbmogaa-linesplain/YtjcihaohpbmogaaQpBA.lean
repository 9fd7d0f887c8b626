/-
  Layer 11 (lines): leads: whether steps lead from a line to another one.
-/
import Derived.Test.YtjcihaohpbmogaaQpAD
import Derived.Test.YtjcihaohpbmogaaQpAE
/- Layer 11 (lines): leads: whether steps lead from a line to another one. -/
namespace Go.Proofs.Ytjcihaohpbmogaa.Oct
open Go.RowKit
set_option maxRecDepth 100000
set_option linter.unusedSimpArgs false
set_option linter.unusedVariables false
set_option linter.unusedSectionVars false

def Gm.frs (G : Gm) (v : Vx) : List Vx := match G.get v with
  | some l => l.p.fr
  | none => []
/-- steps come from lines, or from Top -/
def Gm.tied (G : Gm) : Prop := vTop ∉ G.keys ∧ ∀ l ∈ G.ls, ∀ u ∈ l.p.fr, u = vTop ∨ u ∈ G.keys
def lenOf : Value → Nat
  | .slice _ n _ => n
  | _ => 0
def countOf (w : World) (b : Nat) : Nat := match w.heap[b]? with | some (.map es _) => es.size | _ => 0
theorem MP.count {K : Type} [MK K] {w : World} {b : Nat} {l : Kv K} (h : MP w b l) : countOf w b = l.length := by
  obtain ⟨es, ⟨clock, hb, _⟩, rfl⟩ := h
  unfold countOf
  rw [hb]; simp
theorem OV.slice {B : Nat} {w : World} {v : Value} {n : Nat} {vs : List Vx} (h : OV B w v n vs) (hn : 0 < n) : ∃ g c, v = .slice (some ⟨g, 0, none⟩) n c ∧ n ≤ c ∧ B ≤ g ∧ g < w.heap.size := by
  rcases h.1.2 with ⟨_, h2⟩ | ⟨g, cap, cur, h1, h2, h3, h4, _⟩
  · omega
  · exact ⟨g, cap, h1, h4, h2, (Array.getElem?_eq_some_iff.1 h3).1⟩
theorem frs_top {G : Gm} (hT : G.tied) : G.frs vTop = [] := by
  unfold Gm.frs
  cases hg : G.get vTop with
  | none => rfl
  | some l => exact absurd (List.mem_map.2 ⟨l, (get_mem hg).1, (get_mem hg).2⟩) hT.1
theorem frs_tied {G : Gm} (hT : G.tied) {x : Vx} : ∀ y ∈ G.frs x, y = vTop ∨ y ∈ G.keys := by
  intro y hy
  unfold Gm.frs at hy
  cases hg : G.get x with
  | none => rw [hg] at hy; cases hy
  | some l => rw [hg] at hy; exact hT.2 l (get_mem hg).1 y hy
theorem unitK_len {K : Type} (l : List K) : (unitK l).length = l.length := by simp [unitK]
set_option maxRecDepth 100000 in
set_option maxHeartbeats 4000000 in
theorem ld5 {Q : Exit → Act → World → Prop} {x1 x2 x3 x4 x5 x6 x7 x10 x11 x12 x13 x14 x15 x16 x17 x18 x19 x20 x21 x22 x23 x24 x25 x26 x27 x28 x29 x30 x31 x32 x33 x34 x35 x36 x37 x38 x39 x40 x41 x42 x43 x44 x45 x46 x47 x48 x49 x50 x51 x52 x53 x54 x55 x56 x57 x58 x59 x60 x61 x62 x63 x64 x65 x66 x67 x68 x69 x70 : Value} {ds : List Deferred} {A : World} {p m g n c : Nat} {f : Vx} {q : Value}
    (HL : Hid (g < A.heap.size)) (HP : Hid (p < A.heap.size)) (HR : Hid (A.rangeAt g (n * 33) f.cells)) (HV : Hid f.ok) (c0 : A.cell? ⟨p, 0, none⟩ = some (.map (some m))) (HK : Hid (∀ V, Below A.heap.size A V → (Instr.lookup 65 (.map (some m)) (.agg f.cells.toArray) false).run Try.prog V = .ok q V)) (q1 : (n : Int) < ((n : Int) + 1)) (q2 : n < n + 1)
    (hQ : ∀ V1, Below A.heap.size A V1 → Q .normal { tmps := #[.pointer (some ⟨p, 0, none⟩), x1, x2, x3, x4, x5, x6, x7, .slice (some ⟨g, 0, none⟩) (n + 1) c, iv (n : Int), q, x11, x12, x13, x14, x15, x16, x17, x18, x19, x20, x21, x22, x23, x24, x25, x26, .pointer (some ⟨p, 0, none⟩), .pointer (some ⟨p, 0, none⟩), .pointer (some ⟨p, 0, none⟩), .map (some m), .slice (some ⟨g, 0, none⟩) (n + 1) c, iv (n : Int), .pointer (some ⟨g, n * 33, none⟩), .agg f.cells.toArray, q, x36, x37, x38, x39, x40, x41, x42, x43, x44, x45, x46, x47, x48, x49, x50, x51, x52, x53, x54, x55, x56, x57, x58, x59, x60, x61, x62, x63, x64, x65, x66, x67, x68, x69, x70], defers := ds } V1) :
    (Code.region 5 #[{ dst := some 27, op := Op.move (Operand.tmp 0), type := 25, pos := "lines.go:73", after := #[], guard := none }, { dst := some 28, op := Op.nilCheck (Operand.tmp 27), type := 0, pos := "lines.go:73", after := #[{ on := 0, ground := Ground.data }], guard := none }, { dst := some 29, op := Op.fieldAddr 67 (Operand.tmp 28) 0, type := 0, pos := "lines.go:73", after := #[{ on := 1, ground := Ground.data }], guard := none }, { dst := some 30, op := Op.load 65 (Operand.tmp 29), type := 65, pos := "lines.go:73", after := #[{ on := 2, ground := Ground.data }], guard := none }, { dst := some 31, op := Op.move (Operand.tmp 8), type := 35, pos := "lines.go:73", after := #[], guard := none }, { dst := some 32, op := Op.move (Operand.tmp 9), type := 3, pos := "lines.go:73", after := #[], guard := none }, { dst := some 33, op := Op.indexAddr 35 (Operand.tmp 31) (Operand.tmp 32), type := 0, pos := "lines.go:73", after := #[{ on := 4, ground := Ground.data }, { on := 5, ground := Ground.data }], guard := none }, { dst := some 34, op := Op.load 34 (Operand.tmp 33), type := 34, pos := "lines.go:73", after := #[{ on := 6, ground := Ground.data }], guard := none }, { dst := some 35, op := Op.lookup 65 (Operand.tmp 30) (Operand.tmp 34) false, type := 71, pos := "lines.go:73", after := #[{ on := 3, ground := Ground.data }, { on := 7, ground := Ground.data }], guard := none }, { dst := some 10, op := Op.assign (Operand.tmp 35), type := 71, pos := "lines.go:73", after := #[{ on := 8, ground := Ground.data }, { on := 0, ground := Ground.phase }, { on := 1, ground := Ground.phase }, { on := 2, ground := Ground.phase }, { on := 3, ground := Ground.phase }, { on := 4, ground := Ground.phase }, { on := 5, ground := Ground.phase }, { on := 6, ground := Ground.phase }, { on := 7, ground := Ground.phase }, { on := 8, ground := Ground.phase }], guard := none }] true).wp Try.prog Q { tmps := #[.pointer (some ⟨p, 0, none⟩), x1, x2, x3, x4, x5, x6, x7, .slice (some ⟨g, 0, none⟩) (n + 1) c, iv (n : Int), x10, x11, x12, x13, x14, x15, x16, x17, x18, x19, x20, x21, x22, x23, x24, x25, x26, x27, x28, x29, x30, x31, x32, x33, x34, x35, x36, x37, x38, x39, x40, x41, x42, x43, x44, x45, x46, x47, x48, x49, x50, x51, x52, x53, x54, x55, x56, x57, x58, x59, x60, x61, x62, x63, x64, x65, x66, x67, x68, x69, x70], defers := ds } A := by
  refine Code.wp_mono (Q := fun x a' w' => match x with | .normal => Q .normal a' w' | _ => False) (by intro x a' w' h; cases x <;> first | exact h | exact h.elim) ?_
  refine wp_region_held (S := fun V => Below A.heap.size A V) (by kernel_rfl) ?_
  have hS0 : Hid (Below A.heap.size A A.drew) := below_drew0 A
  change wpAnyH Try.prog .any _ _ (fun V => Below A.heap.size A V) 10 (Array.replicate 10 false) _ A.drew
  obtain ⟨V0, hV0⟩ : ∃ V0, A.drew = V0 := ⟨_, rfl⟩
  rw [hV0]
  rw [hV0] at hS0
  clear hV0
  refine wpAnyH_take (i := 0) (oi := { dst := some 27, op := Op.move (Operand.tmp 0), type := 25, pos := "lines.go:73", after := #[], guard := none }) (v := .pointer (some ⟨p, 0, none⟩)) rfl (by kernel_rfl) (by kernel_rfl) (by kernel_rfl) (fun _ _ _ h => h.elim) (Or.inl ⟨by rfl, ?y1⟩) hS0.out ?_
  case y1 =>
    intro V hV
    go_simp
  simp only [Act.put, List.setIfInBounds_toArray, List.set_cons_zero, List.set_cons_succ]
  refine wpAnyH_take (i := 1) (oi := { dst := some 28, op := Op.nilCheck (Operand.tmp 27), type := 0, pos := "lines.go:73", after := #[{ on := 0, ground := Ground.data }], guard := none }) (v := .pointer (some ⟨p, 0, none⟩)) rfl (by kernel_rfl) (by kernel_rfl) (by kernel_rfl) (fun _ _ _ h => h.elim) (Or.inl ⟨by rfl, ?y2⟩) hS0.out ?_
  case y2 =>
    intro V hV
    go_simp
  simp only [Act.put, List.setIfInBounds_toArray, List.set_cons_zero, List.set_cons_succ]
  refine wpAnyH_take (i := 2) (oi := { dst := some 29, op := Op.fieldAddr 67 (Operand.tmp 28) 0, type := 0, pos := "lines.go:73", after := #[{ on := 1, ground := Ground.data }], guard := none }) (v := .pointer (some ⟨p, 0, none⟩)) rfl (by kernel_rfl) (by kernel_rfl) (by kernel_rfl) (fun _ _ _ h => h.elim) (Or.inl ⟨by rfl, ?y3⟩) hS0.out ?_
  case y3 =>
    intro V hV
    go_simp
  simp only [Act.put, List.setIfInBounds_toArray, List.set_cons_zero, List.set_cons_succ]
  refine wpAnyH_take (i := 3) (oi := { dst := some 30, op := Op.load 65 (Operand.tmp 29), type := 65, pos := "lines.go:73", after := #[{ on := 2, ground := Ground.data }], guard := none }) (v := .map (some m)) rfl (by kernel_rfl) (by kernel_rfl) (by kernel_rfl) (fun _ _ _ h => h.elim) (Or.inl ⟨by rfl, ?y4⟩) hS0.out ?_
  case y4 =>
    intro V hV
    have hc : V.cell? ⟨p, 0, none⟩ = some (.map (some m)) := (hV.cell (p := ⟨p, 0, none⟩) HP.out).trans c0
    go_simp
  simp only [Act.put, List.setIfInBounds_toArray, List.set_cons_zero, List.set_cons_succ]
  refine wpAnyH_take (i := 4) (oi := { dst := some 31, op := Op.move (Operand.tmp 8), type := 35, pos := "lines.go:73", after := #[], guard := none }) (v := .slice (some ⟨g, 0, none⟩) (n + 1) c) rfl (by kernel_rfl) (by kernel_rfl) (by kernel_rfl) (fun _ _ _ h => h.elim) (Or.inl ⟨by rfl, ?y5⟩) hS0.out ?_
  case y5 =>
    intro V hV
    go_simp
  simp only [Act.put, List.setIfInBounds_toArray, List.set_cons_zero, List.set_cons_succ]
  refine wpAnyH_take (i := 5) (oi := { dst := some 32, op := Op.move (Operand.tmp 9), type := 3, pos := "lines.go:73", after := #[], guard := none }) (v := iv (n : Int)) rfl (by kernel_rfl) (by kernel_rfl) (by kernel_rfl) (fun _ _ _ h => h.elim) (Or.inl ⟨by rfl, ?y6⟩) hS0.out ?_
  case y6 =>
    intro V hV
    go_simp
  simp only [Act.put, List.setIfInBounds_toArray, List.set_cons_zero, List.set_cons_succ]
  refine wpAnyH_take (i := 6) (oi := { dst := some 33, op := Op.indexAddr 35 (Operand.tmp 31) (Operand.tmp 32), type := 0, pos := "lines.go:73", after := #[{ on := 4, ground := Ground.data }, { on := 5, ground := Ground.data }], guard := none }) (v := .pointer (some ⟨g, n * 33, none⟩)) rfl (by kernel_rfl) (by kernel_rfl) (by kernel_rfl) (fun _ _ _ h => h.elim) (Or.inl ⟨by rfl, ?y7⟩) hS0.out ?_
  case y7 =>
    intro V hV
    have hcmp := q1
    have hcmp2 := q2
    go_simp
  simp only [Act.put, List.setIfInBounds_toArray, List.set_cons_zero, List.set_cons_succ]
  refine wpAnyH_take (i := 7) (oi := { dst := some 34, op := Op.load 34 (Operand.tmp 33), type := 34, pos := "lines.go:73", after := #[{ on := 6, ground := Ground.data }], guard := none }) (v := .agg f.cells.toArray) rfl (by kernel_rfl) (by kernel_rfl) (by kernel_rfl) (fun _ _ _ h => h.elim) (yieldsIf_load_mid (by rfl) _ _ rfl _ _ rfl (f.cells) _ (fun V hV => rangeAt_same (HR.out) ((show Below A.heap.size A V from hV).block _ (HL.out))) Try.underlying34 rfl (info34 HV.out)) hS0.out ?_
  simp only [Act.put, List.setIfInBounds_toArray, List.set_cons_zero, List.set_cons_succ]
  refine wpAnyH_take (i := 8) (oi := { dst := some 35, op := Op.lookup 65 (Operand.tmp 30) (Operand.tmp 34) false, type := 71, pos := "lines.go:73", after := #[{ on := 3, ground := Ground.data }, { on := 7, ground := Ground.data }], guard := none }) (v := q) rfl (by kernel_rfl) (by kernel_rfl) (by kernel_rfl) (fun _ _ _ h => h.elim) (Or.inl ⟨by rfl, ?y8⟩) hS0.out ?_
  case y8 =>
    intro V hV
    exact yl_lookup V 65 _ _ false _ _ _ rfl rfl rfl (HK.out V hV)
  simp only [Act.put, List.setIfInBounds_toArray, List.set_cons_zero, List.set_cons_succ]
  refine wpAnyH_take (i := 9) (oi := { dst := some 10, op := Op.assign (Operand.tmp 35), type := 71, pos := "lines.go:73", after := #[{ on := 8, ground := Ground.data }, { on := 0, ground := Ground.phase }, { on := 1, ground := Ground.phase }, { on := 2, ground := Ground.phase }, { on := 3, ground := Ground.phase }, { on := 4, ground := Ground.phase }, { on := 5, ground := Ground.phase }, { on := 6, ground := Ground.phase }, { on := 7, ground := Ground.phase }, { on := 8, ground := Ground.phase }], guard := none }) (v := q) rfl (by kernel_rfl) (by kernel_rfl) (by kernel_rfl) (fun _ _ _ h => h.elim) (Or.inl ⟨by rfl, ?y9⟩) hS0.out ?_
  case y9 =>
    intro V hV
    go_simp
  simp only [Act.put, List.setIfInBounds_toArray, List.set_cons_zero, List.set_cons_succ]
  refine wpAnyH_done (by kernel_rfl) ?_ _
  exact hQ V0 hS0.out
set_option maxRecDepth 100000 in
set_option maxHeartbeats 4000000 in
theorem ld13t {Q : Exit → Act → World → Prop} {x0 x1 x2 x3 x4 x5 x6 x7 x8 x9 x10 x11 x13 x15 x16 x17 x18 x19 x20 x21 x22 x23 x24 x25 x26 x27 x28 x29 x30 x31 x32 x33 x34 x35 x36 x37 x38 x39 x40 x41 x42 x43 x44 x45 x46 x47 x48 x49 x50 x51 x52 x53 x54 x55 x56 x57 x58 x59 x60 x61 x62 x63 x64 x65 x66 x67 x68 x69 x70 : Value} {ds : List Deferred} {A : World} {d : Nat} {y : Vx} {B : Bool}
    (HL : Hid (d < A.heap.size)) (HR : Hid (A.rangeAt d 0 y.cells)) (HV : Hid y.ok) (HB : Hid (eqVx y vTop = B))
    (hQ : ∀ V1, Below A.heap.size A V1 → Q .normal { tmps := #[x0, x1, x2, x3, x4, x5, x6, x7, x8, x9, x10, x11, .pointer (some ⟨d, 0, none⟩), x13, .bool true, x15, x16, x17, x18, x19, x20, x21, x22, x23, x24, x25, x26, x27, x28, x29, x30, x31, x32, x33, x34, x35, x36, x37, x38, x39, x40, x41, x42, x43, x44, x45, x46, x47, x48, x49, x50, x51, x52, x53, x54, x55, x56, .bool true, .bool true, undef, undef, undef, .bool true, x63, x64, x65, x66, x67, x68, x69, x70], defers := ds } V1) :
    (Code.region 13 #[{ dst := some 57, op := Op.move (Operand.tmp 14), type := 4, pos := "lines.go:79", after := #[], guard := none }, { dst := some 58, op := Op.move (Operand.tmp 57), type := 4, pos := "lines.go:79", after := #[{ on := 0, ground := Ground.data }], guard := none }, { dst := some 59, op := Op.load 34 (Operand.tmp 12), type := 34, pos := "lines.go:79", after := #[{ on := 1, ground := Ground.guard }], guard := some (1, false) }, { dst := some 60, op := Op.call { callee := Callee.value (Operand.func 45), args := #[], argTypes := #[] }, type := 34, pos := "lines.go:79", after := #[{ on := 1, ground := Ground.chain }, { on := 1, ground := Ground.guard }], guard := some (1, false) }, { dst := some 61, op := Op.binOp BinOp.eql 34 (Operand.tmp 59) (Operand.tmp 60) 34, type := 4, pos := "lines.go:79", after := #[{ on := 2, ground := Ground.data }, { on := 3, ground := Ground.data }, { on := 1, ground := Ground.guard }], guard := some (1, false) }, { dst := some 62, op := Op.pick (Operand.tmp 58) (Operand.const (Value.bool true)) (Operand.tmp 61), type := 4, pos := "lines.go:79", after := #[{ on := 1, ground := Ground.data }, { on := 4, ground := Ground.data }], guard := none }] true).wp Try.prog Q { tmps := #[x0, x1, x2, x3, x4, x5, x6, x7, x8, x9, x10, x11, .pointer (some ⟨d, 0, none⟩), x13, .bool true, x15, x16, x17, x18, x19, x20, x21, x22, x23, x24, x25, x26, x27, x28, x29, x30, x31, x32, x33, x34, x35, x36, x37, x38, x39, x40, x41, x42, x43, x44, x45, x46, x47, x48, x49, x50, x51, x52, x53, x54, x55, x56, x57, x58, x59, x60, x61, x62, x63, x64, x65, x66, x67, x68, x69, x70], defers := ds } A := by
  refine Code.wp_mono (Q := fun x a' w' => match x with | .normal => Q .normal a' w' | _ => False) (by intro x a' w' h; cases x <;> first | exact h | exact h.elim) ?_
  refine wp_region_held (S := fun V => Below A.heap.size A V) (by kernel_rfl) ?_
  have hS0 : Hid (Below A.heap.size A A.drew) := below_drew0 A
  change wpAnyH Try.prog .any _ _ (fun V => Below A.heap.size A V) 6 (Array.replicate 6 false) _ A.drew
  obtain ⟨V0, hV0⟩ : ∃ V0, A.drew = V0 := ⟨_, rfl⟩
  rw [hV0]
  rw [hV0] at hS0
  clear hV0
  refine wpAnyH_take (i := 0) (oi := { dst := some 57, op := Op.move (Operand.tmp 14), type := 4, pos := "lines.go:79", after := #[], guard := none }) (v := .bool true) rfl (by kernel_rfl) (by kernel_rfl) (by kernel_rfl) (fun _ _ _ h => h.elim) (Or.inl ⟨by rfl, ?y1⟩) hS0.out ?_
  case y1 =>
    intro V hV
    go_simp
  simp only [Act.put, List.setIfInBounds_toArray, List.set_cons_zero, List.set_cons_succ]
  refine wpAnyH_take (i := 1) (oi := { dst := some 58, op := Op.move (Operand.tmp 57), type := 4, pos := "lines.go:79", after := #[{ on := 0, ground := Ground.data }], guard := none }) (v := .bool true) rfl (by kernel_rfl) (by kernel_rfl) (by kernel_rfl) (fun _ _ _ h => h.elim) (Or.inl ⟨by rfl, ?y2⟩) hS0.out ?_
  case y2 =>
    intro V hV
    go_simp
  simp only [Act.put, List.setIfInBounds_toArray, List.set_cons_zero, List.set_cons_succ]
  refine wpAnyH_take (i := 2) (oi := { dst := some 59, op := Op.load 34 (Operand.tmp 12), type := 34, pos := "lines.go:79", after := #[{ on := 1, ground := Ground.guard }], guard := some (1, false) }) (v := undef) rfl (by kernel_rfl) (by kernel_rfl) (by kernel_rfl) (fun _ _ _ h => h.elim) (Or.inr ⟨by rfl, rfl⟩) hS0.out ?_
  simp only [Act.put, List.setIfInBounds_toArray, List.set_cons_zero, List.set_cons_succ]
  refine wpAnyH_take (i := 3) (oi := { dst := some 60, op := Op.call { callee := Callee.value (Operand.func 45), args := #[], argTypes := #[] }, type := 34, pos := "lines.go:79", after := #[{ on := 1, ground := Ground.chain }, { on := 1, ground := Ground.guard }], guard := some (1, false) }) (v := undef) rfl (by kernel_rfl) (by kernel_rfl) (by kernel_rfl) (fun _ _ _ h => h.elim) (Or.inr ⟨by rfl, rfl⟩) hS0.out ?_
  simp only [Act.put, List.setIfInBounds_toArray, List.set_cons_zero, List.set_cons_succ]
  refine wpAnyH_take (i := 4) (oi := { dst := some 61, op := Op.binOp BinOp.eql 34 (Operand.tmp 59) (Operand.tmp 60) 34, type := 4, pos := "lines.go:79", after := #[{ on := 2, ground := Ground.data }, { on := 3, ground := Ground.data }, { on := 1, ground := Ground.guard }], guard := some (1, false) }) (v := undef) rfl (by kernel_rfl) (by kernel_rfl) (by kernel_rfl) (fun _ _ _ h => h.elim) (Or.inr ⟨by rfl, rfl⟩) hS0.out ?_
  simp only [Act.put, List.setIfInBounds_toArray, List.set_cons_zero, List.set_cons_succ]
  refine wpAnyH_take (i := 5) (oi := { dst := some 62, op := Op.pick (Operand.tmp 58) (Operand.const (Value.bool true)) (Operand.tmp 61), type := 4, pos := "lines.go:79", after := #[{ on := 1, ground := Ground.data }, { on := 4, ground := Ground.data }], guard := none }) (v := .bool true) rfl (by kernel_rfl) (by kernel_rfl) (by kernel_rfl) (fun _ _ _ h => h.elim) (Or.inl ⟨by rfl, ?y3⟩) hS0.out ?_
  case y3 =>
    intro V hV
    go_simp
  simp only [Act.put, List.setIfInBounds_toArray, List.set_cons_zero, List.set_cons_succ]
  refine wpAnyH_done (by kernel_rfl) ?_ _
  exact hQ V0 hS0.out
set_option maxRecDepth 100000 in
set_option maxHeartbeats 4000000 in
theorem ld13f {Q : Exit → Act → World → Prop} {x0 x1 x2 x3 x4 x5 x6 x7 x8 x9 x10 x11 x13 x15 x16 x17 x18 x19 x20 x21 x22 x23 x24 x25 x26 x27 x28 x29 x30 x31 x32 x33 x34 x35 x36 x37 x38 x39 x40 x41 x42 x43 x44 x45 x46 x47 x48 x49 x50 x51 x52 x53 x54 x55 x56 x57 x58 x59 x60 x61 x62 x63 x64 x65 x66 x67 x68 x69 x70 : Value} {ds : List Deferred} {A : World} {d : Nat} {y : Vx} {B : Bool}
    (HL : Hid (d < A.heap.size)) (HR : Hid (A.rangeAt d 0 y.cells)) (HV : Hid y.ok) (HB : Hid (eqVx y vTop = B))
    (hQ : ∀ V1, Below A.heap.size A V1 → Q .normal { tmps := #[x0, x1, x2, x3, x4, x5, x6, x7, x8, x9, x10, x11, .pointer (some ⟨d, 0, none⟩), x13, .bool false, x15, x16, x17, x18, x19, x20, x21, x22, x23, x24, x25, x26, x27, x28, x29, x30, x31, x32, x33, x34, x35, x36, x37, x38, x39, x40, x41, x42, x43, x44, x45, x46, x47, x48, x49, x50, x51, x52, x53, x54, x55, x56, .bool false, .bool false, .agg y.cells.toArray, .agg vTop.cells.toArray, .bool B, .bool B, x63, x64, x65, x66, x67, x68, x69, x70], defers := ds } V1) :
    (Code.region 13 #[{ dst := some 57, op := Op.move (Operand.tmp 14), type := 4, pos := "lines.go:79", after := #[], guard := none }, { dst := some 58, op := Op.move (Operand.tmp 57), type := 4, pos := "lines.go:79", after := #[{ on := 0, ground := Ground.data }], guard := none }, { dst := some 59, op := Op.load 34 (Operand.tmp 12), type := 34, pos := "lines.go:79", after := #[{ on := 1, ground := Ground.guard }], guard := some (1, false) }, { dst := some 60, op := Op.call { callee := Callee.value (Operand.func 45), args := #[], argTypes := #[] }, type := 34, pos := "lines.go:79", after := #[{ on := 1, ground := Ground.chain }, { on := 1, ground := Ground.guard }], guard := some (1, false) }, { dst := some 61, op := Op.binOp BinOp.eql 34 (Operand.tmp 59) (Operand.tmp 60) 34, type := 4, pos := "lines.go:79", after := #[{ on := 2, ground := Ground.data }, { on := 3, ground := Ground.data }, { on := 1, ground := Ground.guard }], guard := some (1, false) }, { dst := some 62, op := Op.pick (Operand.tmp 58) (Operand.const (Value.bool true)) (Operand.tmp 61), type := 4, pos := "lines.go:79", after := #[{ on := 1, ground := Ground.data }, { on := 4, ground := Ground.data }], guard := none }] true).wp Try.prog Q { tmps := #[x0, x1, x2, x3, x4, x5, x6, x7, x8, x9, x10, x11, .pointer (some ⟨d, 0, none⟩), x13, .bool false, x15, x16, x17, x18, x19, x20, x21, x22, x23, x24, x25, x26, x27, x28, x29, x30, x31, x32, x33, x34, x35, x36, x37, x38, x39, x40, x41, x42, x43, x44, x45, x46, x47, x48, x49, x50, x51, x52, x53, x54, x55, x56, x57, x58, x59, x60, x61, x62, x63, x64, x65, x66, x67, x68, x69, x70], defers := ds } A := by
  refine Code.wp_mono (Q := fun x a' w' => match x with | .normal => Q .normal a' w' | _ => False) (by intro x a' w' h; cases x <;> first | exact h | exact h.elim) ?_
  refine wp_region_held (S := fun V => Below A.heap.size A V) (by kernel_rfl) ?_
  have hS0 : Hid (Below A.heap.size A A.drew) := below_drew0 A
  change wpAnyH Try.prog .any _ _ (fun V => Below A.heap.size A V) 6 (Array.replicate 6 false) _ A.drew
  obtain ⟨V0, hV0⟩ : ∃ V0, A.drew = V0 := ⟨_, rfl⟩
  rw [hV0]
  rw [hV0] at hS0
  clear hV0
  refine wpAnyH_take (i := 0) (oi := { dst := some 57, op := Op.move (Operand.tmp 14), type := 4, pos := "lines.go:79", after := #[], guard := none }) (v := .bool false) rfl (by kernel_rfl) (by kernel_rfl) (by kernel_rfl) (fun _ _ _ h => h.elim) (Or.inl ⟨by rfl, ?y1⟩) hS0.out ?_
  case y1 =>
    intro V hV
    go_simp
  simp only [Act.put, List.setIfInBounds_toArray, List.set_cons_zero, List.set_cons_succ]
  refine wpAnyH_take (i := 1) (oi := { dst := some 58, op := Op.move (Operand.tmp 57), type := 4, pos := "lines.go:79", after := #[{ on := 0, ground := Ground.data }], guard := none }) (v := .bool false) rfl (by kernel_rfl) (by kernel_rfl) (by kernel_rfl) (fun _ _ _ h => h.elim) (Or.inl ⟨by rfl, ?y2⟩) hS0.out ?_
  case y2 =>
    intro V hV
    go_simp
  simp only [Act.put, List.setIfInBounds_toArray, List.set_cons_zero, List.set_cons_succ]
  refine wpAnyH_take (i := 2) (oi := { dst := some 59, op := Op.load 34 (Operand.tmp 12), type := 34, pos := "lines.go:79", after := #[{ on := 1, ground := Ground.guard }], guard := some (1, false) }) (v := .agg y.cells.toArray) rfl (by kernel_rfl) (by kernel_rfl) (by kernel_rfl) (fun _ _ _ h => h.elim) (yieldsIf_load_mid (by rfl) _ _ rfl _ _ rfl (y.cells) _ (fun V hV => rangeAt_same (HR.out) ((show Below A.heap.size A V from hV).block _ (HL.out))) Try.underlying34 rfl (info34 HV.out)) hS0.out ?_
  simp only [Act.put, List.setIfInBounds_toArray, List.set_cons_zero, List.set_cons_succ]
  refine wpAnyH_ready (rs := [3]) (by kernel_rfl) (by simp) (AllReadyH.cons (i := 3) (o := { dst := some 60, op := Op.call { callee := Callee.value (Operand.func 45), args := #[], argTypes := #[] }, type := 34, pos := "lines.go:79", after := #[{ on := 1, ground := Ground.chain }, { on := 1, ground := Ground.guard }], guard := some (1, false) }) rfl ?_ AllReadyH.nil)
  · intro K1 hK1
    rw [if_pos (by rfl)]
    have HC1 := top_is V0 vTop.cells rfl
    go_wp2_with fail
    refine HC1.mono ?_
    rintro e V1 ⟨rfl, hb1⟩
    dsimp only
    clear HC1
    have hS1 : Hid (Below A.heap.size A V1) := hS0.out.trans (hb1.mono hS0.out.size)
    clear hb1
    refine hK1.out _ _ hS1.out ?_
    clear hK1
    intro _
    try simp only [Act.put, List.setIfInBounds_toArray, List.set_cons_zero, List.set_cons_succ]
    refine wpAnyH_take (i := 4) (oi := { dst := some 61, op := Op.binOp BinOp.eql 34 (Operand.tmp 59) (Operand.tmp 60) 34, type := 4, pos := "lines.go:79", after := #[{ on := 2, ground := Ground.data }, { on := 3, ground := Ground.data }, { on := 1, ground := Ground.guard }], guard := some (1, false) }) (v := .bool B) rfl (by kernel_rfl) (by kernel_rfl) (by kernel_rfl) (fun _ _ _ h => h.elim) (Or.inl ⟨by rfl, ?y3⟩) hS1.out ?_
    case y3 =>
      intro V hV
      exact yl_eqV V _ _ y vTop HV.out vTop_ok B HB.out rfl rfl rfl
    simp only [Act.put, List.setIfInBounds_toArray, List.set_cons_zero, List.set_cons_succ]
    refine wpAnyH_take (i := 5) (oi := { dst := some 62, op := Op.pick (Operand.tmp 58) (Operand.const (Value.bool true)) (Operand.tmp 61), type := 4, pos := "lines.go:79", after := #[{ on := 1, ground := Ground.data }, { on := 4, ground := Ground.data }], guard := none }) (v := .bool B) rfl (by kernel_rfl) (by kernel_rfl) (by kernel_rfl) (fun _ _ _ h => h.elim) (Or.inl ⟨by rfl, ?y4⟩) hS1.out ?_
    case y4 =>
      intro V hV
      go_simp
    simp only [Act.put, List.setIfInBounds_toArray, List.set_cons_zero, List.set_cons_succ]
    refine wpAnyH_done (by kernel_rfl) ?_ _
    exact hQ V1 hS1.out
theorem zval34 : ∃ Z : List Value, (∀ W, (zeroValue 34).run Try.prog W = .ok (.agg Z.toArray) W) ∧ Hid (Z.length = 33) := ⟨vTop.cells, fun W => by kernel_rfl, Vx.len vTop_ok⟩
theorem frs_get {w : World} {p : Nat} {G : Gm} (h : GAt w p G) {l : Ln} (hl : l ∈ G.ls) : G.frs l.p.v = l.p.fr := by unfold Gm.frs; rw [get_is h hl]
set_option maxHeartbeats 4000000 in
theorem leads_is {w : World} {p : Nat} {G : Gm} (h : GAt w p G) (hT : G.tied) (a b : Vx) (ha : Vk a) (hb : Vk b) (hbk : b ∈ G.keys) (XA XB : List Value) (hXA : a.cells = XA) (hXB : b.cells = XB) (B : Bool) (hB : B = true ↔ Gr.Reach G.frs b a) :
    Calls Try.prog 47 #[.pointer (some ⟨p, 0, none⟩), .agg XA.toArray, .agg XB.toArray] w fun e w' => e = .returned (.bool B) ∧ Below w.heap.size w w' := by
  subst hXA
  subst hXB
  obtain ⟨d4, hdd4⟩ : ∃ d, w.heap.size = d := ⟨_, rfl⟩
  obtain ⟨W1, hWd4⟩ : ∃ W, w.alloc (.cells a.cells.toArray 34) = W := ⟨_, rfl⟩
  have bd4 : Below w.heap.size w W1 := by rw [← hWd4]; exact below_al _ _
  have kd4 : Blk W1 d4 34 a.cells := by rw [← hWd4, ← hdd4]; exact Blk.new w _ _
  obtain ⟨d5, hdd5⟩ : ∃ d, W1.heap.size = d := ⟨_, rfl⟩
  obtain ⟨W2, hWd5⟩ : ∃ W, W1.alloc (.cells b.cells.toArray 34) = W := ⟨_, rfl⟩
  have bd5 : Below W1.heap.size W1 W2 := by rw [← hWd5]; exact below_al _ _
  have kd5 : Blk W2 d5 34 b.cells := by rw [← hWd5, ← hdd5]; exact Blk.new W1 _ _
  have HG : Hid (GAt w p G ∧ G.tied ∧ Vk a ∧ Vk b ∧ b ∈ G.keys ∧ (B = true ↔ Gr.Reach G.frs b a)) := ⟨h, hT, ha, hb, hbk, hB⟩
  have HW : Hid (Below w.heap.size w W2 ∧ Blk W2 d4 34 a.cells ∧ Blk W2 d5 34 b.cells) := ⟨below_tr bd4 bd5, kd4.below bd5 kd4.lt, kd5⟩
  have h1 := Vx.one a
  have h1b := Vx.one b
  have h2 := Try.underlying34
  have h3 := info34 ha.1
  have h3b := info34 hb.1
  have h4 := Vx.len ha.1
  have h4b := Vx.len hb.1
  have hz90 := zero90
  clear bd4 bd5 kd4 kd5 h hT ha hb hbk hB
  go_enter Try.func47, Try.ntmps47
  go_wp2_with (with_reducible change wpList _ _ _ ({ dst := some 15, op := _, type := _, pos := _, after := _, guard := _ } :: _) _ _; refine Hid.out ?_)
  show wpList _ _ _ _ _ _
  clear hWd4 hWd5 hdd4 hdd5 h1 h1b h3 h3b h4 h4b
  obtain ⟨W3, hW3⟩ : ∃ W3, W2.alloc (.map #[] 0) = W3 := ⟨_, rfl⟩
  obtain ⟨m, hm⟩ : ∃ m, W2.heap.size = m := ⟨_, rfl⟩
  have H3 : Hid (Below w.heap.size w W3 ∧ Blk W3 d4 34 a.cells ∧ Blk W3 d5 34 b.cells ∧ MP W3 m (unitK ([] : List Vx)) ∧ d4 < m ∧ d5 < m ∧ w.heap.size ≤ m) := by
    have hbl : Below W2.heap.size W2 W3 := by rw [← hW3]; exact below_al _ _
    exact ⟨below_tr HW.out.1 hbl, HW.out.2.1.below hbl HW.out.2.1.lt, HW.out.2.2.below hbl HW.out.2.2.lt, by rw [← hW3, ← hm]; exact MP.made W2, by rw [← hm]; exact HW.out.2.1.lt, by rw [← hm]; exact HW.out.2.2.lt, by rw [← hm]; exact HW.out.1.size⟩
  refine wpList_makeMap rfl 99 rfl ?_
  rw [hW3, hm]
  clear hW3 hm HW
  go_wp2_with (first
    | (with_reducible change wpList _ _ _ ({ dst := some 16, op := _, type := _, pos := _, after := _, guard := _ } :: _) _ _
       refine wpList_load_want rfl 34 (.tmp 5) rfl d5 0 rfl b.cells _ H3.out.2.2.1.range0 Try.underlying34 rfl (info34 HG.out.2.2.2.1.1) ?_)
    | (with_reducible change wpList _ _ _ ({ dst := none, op := Op.insert 99 _ _ _, type := _, pos := _, after := _, guard := _ } :: _) _ _
       refine Hid.out ?_)
    | fail)
  show wpList _ _ _ _ _ _
  refine wpList_mapUp rfl 99 (.tmp 15) (.tmp 16) (.tmp 17) (.inr rfl) _ _ _ rfl rfl rfl (fun w' => MP w' m (unitK [b]) ∧ W3.grownBy w' (some m)) (by
    obtain ⟨w', r1, r2, r3, r4⟩ := H3.out.2.2.2.1.put (t := 99) (E := 90) (h := b) Try.underlying99 HG.out.2.2.2.1 (.agg #[])
    exact ⟨w', r1, by have := r2; rw [kput_unit] at this; exact this, r3⟩) ?_
  intro W4 ⟨r1, r2⟩
  have H4 : Hid (Below w.heap.size w W4 ∧ Blk W4 d4 34 a.cells ∧ Blk W4 d5 34 b.cells ∧ MP W4 m (unitK [b]) ∧ d4 < m ∧ d5 < m ∧ w.heap.size ≤ m ∧ Below m W3 W4) := by
    have hk : ∀ k, k < m → W4.heap[k]? = W3.heap[k]? := fun k hk => r2.block k (Nat.lt_trans hk H3.out.2.2.2.1.lt) (fun e => by cases e; omega)
    have hbl : Below m W3 W4 := ⟨r2.os, r2.tape, r2.output, r2.size, hk⟩
    exact ⟨H3.out.1.trans (hbl.mono H3.out.2.2.2.2.2.2), H3.out.2.1.below hbl H3.out.2.2.2.2.1, H3.out.2.2.1.below hbl H3.out.2.2.2.2.2.1, r1, H3.out.2.2.2.2.1, H3.out.2.2.2.2.2.1, H3.out.2.2.2.2.2.2, hbl⟩
  clear r1 r2
  go_wp2_with (first
    | (with_reducible change wpList _ _ _ ({ dst := some 19, op := _, type := _, pos := _, after := _, guard := _ } :: _) _ _
       refine wpList_load_want rfl 34 (.tmp 5) rfl d5 0 rfl b.cells _ H4.out.2.2.1.range0 Try.underlying34 rfl (info34 HG.out.2.2.2.1.1) ?_)
    | (with_reducible change wpList _ _ _ ({ dst := some 20, op := _, type := _, pos := _, after := _, guard := _ } :: _) _ _
       refine wpList_bslice1 rfl (.tmp 19) rfl b HG.out.2.2.2.1.1 rfl ?_)
    | fail)
  obtain ⟨W5, hW5⟩ : ∃ W5, W4.alloc (.cells b.cells.toArray 34) = W5 := ⟨_, rfl⟩
  obtain ⟨g0, hg0⟩ : ∃ g, W4.heap.size = g := ⟨_, rfl⟩
  have hbk : b ≠ vTop := fun e => HG.out.2.1.1 (e ▸ HG.out.2.2.2.2.1)
  have H5 : Hid (Below w.heap.size w W5 ∧ Blk W5 d4 34 a.cells ∧ MP W5 m (unitK [b]) ∧ OV (m + 1) W5 (.slice (some ⟨g0, 0, none⟩) 1 1) 1 [b] ∧ d4 < m ∧ w.heap.size ≤ m ∧ b ≠ vTop) := by
    have hbl : Below W4.heap.size W4 W5 := by rw [← hW5]; exact below_al _ _
    exact ⟨below_tr H4.out.1 hbl, H4.out.2.1.below hbl H4.out.2.1.lt, H4.out.2.2.2.1.same (hbl.block m H4.out.2.2.2.1.lt), by rw [← hW5, ← hg0]; exact OV.one W4 b HG.out.2.2.2.1 H4.out.2.2.2.1.lt, H4.out.2.2.2.2.1, H4.out.2.2.2.2.2.2.1, hbk⟩
  rw [hW5, hg0]
  clear hW5 hg0 H3 H4 hbk
  obtain ⟨T, hTT⟩ : ∃ T, G.keys.length = T := ⟨_, rfl⟩
  have HT : Hid (G.keys.length = T ∧ T ≤ 512) := ⟨hTT, by rw [← hTT]; have := HG.out.1.few; simpa [Gm.keys] using this⟩
  clear hTT
  go_loopw [8] (fun u wr => ∃ (n : Nat) (work met : List Vx), Hid (Below w.heap.size w wr ∧ Blk wr d4 34 a.cells ∧ MP wr m (unitK met) ∧ OV (m + 1) wr u n work ∧ Gr.LO G.frs vTop a b work met)) (fun u wr => 2 * (T - countOf wr m) + lenOf u)
  case atStart => exact ⟨1, [b], [b], H5.out.1, H5.out.2.1, H5.out.2.2.1, H5.out.2.2.2.1, Gr.LO.start _ _ _ _ H5.out.2.2.2.2.2.2⟩
  case round =>
    obtain ⟨V, hV⟩ : ∃ V, V = wr := ⟨_, rfl⟩
    subst hV
    obtain ⟨n, work, met, HR⟩ := hrel
    have HM : Hid (d4 < m ∧ w.heap.size ≤ m) := ⟨H5.out.2.2.2.2.1, H5.out.2.2.2.2.2.1⟩
    clear H5
    have HK : Hid (met.length ≤ T ∧ countOf V m = met.length ∧ (∀ x ∈ met, x ∈ G.keys) ∧ work.length = n) := by
      have h0 := Gr.met_keys HR.out.2.2.2.2.nd HG.out.2.2.2.2.1 (fun x _ => frs_tied HG.out.2.1) HR.out.2.2.2.2.rch (frs_top HG.out.2.1) HR.out.2.2.2.2.tm
      refine ⟨by rw [← HT.out.1]; exact Gr.nodup_len _ _ HR.out.2.2.2.2.nd h0, by rw [HR.out.2.2.1.count, unitK_len], h0, HR.out.2.2.2.1.len⟩
    cases n with
    | zero =>
      obtain ⟨a0, c0, rfl, _, _⟩ := HR.out.2.2.2.1.read
      have HN : Hid (B = false) := by
        have hw0 : work = [] := List.eq_nil_of_length_eq_zero HK.out.2.2.2
        have h0 := HR.out.2.2.2.2
        rw [hw0] at h0
        have := h0.finish (frs_top HG.out.2.1)
        cases hB0 : B with
        | false => rfl
        | true => exact absurd (HG.out.2.2.2.2.2.1 hB0) this
      go_wp2
      go_ret
      rw [HN.out]
      exact ⟨rfl, HR.out.1⟩
    | succ n =>
      obtain ⟨work', f, hwf⟩ : ∃ work' f, work = work' ++ [f] := by
        have hne : work ≠ [] := by intro e; have := HK.out.2.2.2; rw [e] at this; simp at this
        exact ⟨work.dropLast, work.getLast hne, (List.dropLast_concat_getLast hne).symm⟩
      subst hwf
      obtain ⟨g, c, rfl, hnc, hgm, hgV⟩ := HR.out.2.2.2.1.slice (by omega)
      have HF : Hid (f ∈ met ∧ Vk f ∧ work'.length = n ∧ f ∈ G.keys) := by
        have h0 := HR.out.2.2.2.2.sub f (by simp)
        exact ⟨h0, HR.out.2.2.2.1.2 f (by simp), by have := HK.out.2.2.2; simpa using this, HK.out.2.2.1 f h0⟩
      have HRF : Hid (V.rangeAt g (n * 33) f.cells) := by
        obtain ⟨a1, c1, e1, e2, _⟩ := HR.out.2.2.2.1.read
        obtain ⟨g1, off1, e3, _, e4⟩ := e2.2.2 (by omega)
        simp only [Value.slice.injEq] at e1
        rw [e3] at e1
        simp only [Option.some.injEq, Addr.mk.injEq] at e1
        obtain ⟨⟨rfl, rfl, _⟩, _⟩ := e1
        have := e4 n f (by rw [← HF.out.2.2.1]; simp)
        rwa [Nat.zero_add] at this
      have HC : Hid (OV (m + 1) V (.slice (some ⟨g, 0, none⟩) n c) n work') := HR.out.2.2.2.1.cut
      have q1 : (n : Int) ≤ 100000 := by have := HK.out.1; have := HT.out.2; have := HR.out.2.2.2.2.len; have := HK.out.2.2.2; omega
      have q2 : (n : Int) + 1 ≤ (c : Int) := by omega
      have q3 : (n : Int) < (n : Int) + 1 := by omega
      have HGV : Hid (GAt V p G) := HG.out.1.below HR.out.1
      have c0 : V.cell? ⟨p, 0, none⟩ = some (.map (some G.mb)) := HGV.out.blk.cell rfl
      have HLK : Hid (∀ V2, Below V.heap.size V V2 → (Instr.lookup 65 (.map (some G.mb)) (.agg f.cells.toArray) false).run Try.prog V2 = .ok (ptrOf (G.get f)) V2) := fun V2 hV2 => HGV.out.look2 HF.out.2.1 V2 (hV2.block _ HGV.out.mp.lt)
      obtain ⟨l, hl, hlv⟩ := List.mem_map.1 HF.out.2.2.2
      have hgf : G.get f = some l := by rw [← hlv]; exact get_is HG.out.1 hl
      have HLN : Hid (l ∈ G.ls ∧ l.p.v = f ∧ G.frs f = l.p.fr ∧ LnOk l) := ⟨hl, hlv, by rw [← hlv]; exact frs_get HG.out.1 hl, HG.out.1.ok l hl⟩
      have HLK : Hid (∀ V2, Below V.heap.size V V2 → (Instr.lookup 65 (.map (some G.mb)) (.agg f.cells.toArray) false).run Try.prog V2 = .ok (.pointer (some ⟨l.blk, 0, none⟩)) V2) := by
        rw [hgf] at HLK
        exact HLK
      clear hl hlv hgf
      generalize hmb : G.mb = mb at c0 HLK
      go_wp2_with fail
      refine ld5 hgV HGV.out.blk.lt HRF HF.out.2.1.1 c0 HLK q3 (by omega) ?_
      intro V1 hb1
      have c1 : V1.cell? ⟨l.blk, 1, none⟩ = some (.slice (some ⟨l.rb, 0, none⟩) l.p.fr.length l.cap) := ((HGV.out.below hb1).ln HLN.out.1).cell rfl
      have HV1 : Hid (Below w.heap.size w V1 ∧ Blk V1 d4 34 a.cells ∧ MP V1 m (unitK met) ∧ OV (m + 1) V1 (.slice (some ⟨g, 0, none⟩) n c) n work' ∧ Gr.LI G.frs vTop a b f [] work' met ∧ countOf V1 m = met.length) := by
        have hM1 := HR.out.2.2.1.same (hb1.block m HR.out.2.2.1.lt)
        exact ⟨below_tr HR.out.1 hb1, HR.out.2.1.below hb1 HR.out.2.1.lt, hM1, HC.out.below hb1, HR.out.2.2.2.2.pop, by rw [hM1.count, unitK_len]⟩
      have HVS : Hid (VsR w (some ⟨l.rb, 0, none⟩) l.p.fr.length l.p.fr ∧ l.p.fr.length ≤ 1000000) := ⟨(HG.out.1.row HLN.out.1).vs HLN.out.2.2.2.fr, by have := HLN.out.2.2.2.len; omega⟩
      obtain ⟨L, hL⟩ : ∃ L, l.p.fr = L := ⟨_, rfl⟩
      have HL : Hid (G.frs f = L) := by rw [← hL]; exact HLN.out.2.2.1
      rw [hL] at c1 HVS
      clear hb1 hmb c0 HLK HRF HC HGV hgV q3 hL
      generalize l.blk = lb at c1 ⊢
      generalize l.rb = rb at c1 HVS
      generalize l.cap = lc at c1
      obtain ⟨nn, hnn⟩ : ∃ nn, L.length = nn := ⟨_, rfl⟩
      rw [hnn] at c1 HVS
      have HNN : Hid (L.length = nn) := hnn
      have q4 : (nn : Int) ≤ 1000000 := by have := HVS.out.2; omega
      clear hnn
      clear HLK hgm
      go_wp2
      go_loopw [44, 8] (fun u v wr => ∃ (j n2 : Nat) (work met2 : List Vx), u = iv (j : Int) ∧ Hid (j ≤ nn ∧ Below w.heap.size w wr ∧ Blk wr d4 34 a.cells ∧ MP wr m (unitK met2) ∧ OV (m + 1) wr v n2 work ∧ Gr.LI G.frs vTop a b f (L.take j) work met2 ∧ met.length + work.length = met2.length + work'.length ∧ met.length ≤ met2.length)) (fun u _ _ => nn - (intOf u).toNat)
      case atStart => exact ⟨0, n, work', met, rfl, ⟨Nat.zero_le _, HV1.out.1, HV1.out.2.1, HV1.out.2.2.1, HV1.out.2.2.2.1, by simpa using HV1.out.2.2.2.2.1, rfl, Nat.le_refl _⟩⟩
      case round =>
        obtain ⟨V2, hV2⟩ : ∃ V2, V2 = wr := ⟨_, rfl⟩
        subst hV2
        obtain ⟨j, n2, work, met2, rfl, HJ⟩ := hrel
        have HM2 : Hid (met2.length ≤ T ∧ work.length = n2 ∧ work.length ≤ met2.length) := by
          have h0 := Gr.met_keys HJ.out.2.2.2.2.2.1.nd HG.out.2.2.2.2.1 (fun x _ => frs_tied HG.out.2.1) HJ.out.2.2.2.2.2.1.rch (frs_top HG.out.2.1) HJ.out.2.2.2.2.2.1.tm
          refine ⟨by rw [← HT.out.1]; exact Gr.nodup_len _ _ HJ.out.2.2.2.2.2.1.nd h0, HJ.out.2.2.2.2.1.len, ?_⟩
          have := HJ.out.2.2.2.2.2.1.len
          omega
        by_cases hj : j < nn
        · obtain ⟨y, hy⟩ : ∃ y, L[j]? = some y := ⟨_, List.getElem?_eq_getElem (by rw [HNN.out]; exact hj)⟩
          have HD : Hid (j < nn ∧ L[j]? = some y ∧ y.ok ∧ Vk y ∧ y ∈ L) := ⟨hj, hy, (HVS.out.1.2.1 y (List.mem_of_getElem? hy)).1, HVS.out.1.2.1 y (List.mem_of_getElem? hy), List.mem_of_getElem? hy⟩
          have HRD : Hid (V2.rangeAt rb (j * 33) y.cells) := by
            obtain ⟨go, oo, hoa, hgo, hel⟩ := HVS.out.1.2.2 (by omega)
            cases hoa
            have h0 := rangeAt_same (hel j y hy) (HJ.out.2.1.block rb hgo)
            rwa [Nat.zero_add] at h0
          have q5 : (j : Int) < (nn : Int) := by omega
          clear hj hy
          obtain ⟨Z, hZ, HZ⟩ := zval34
          go_wp2_with (first
            | (with_reducible change wpList _ _ _ ({ dst := some 47, op := _, type := _, pos := _, after := _, guard := _ } :: _) _ _
               refine wpList_load_want rfl 34 (.tmp 46) rfl rb (j * 33) rfl y.cells _ HRD.out Try.underlying34 rfl (info34 HD.out.2.2.1) ?_)
            | (with_reducible change wpList _ _ _ ({ dst := none, op := Op.store 34 _ _, type := _, pos := _, after := _, guard := _ } :: _) _ _
               refine Hid.out ?_)
            | fail)
          show wpList _ _ _ _ _ _
          refine wpList_store_fresh rfl 34 (.tmp 12) (.tmp 47) rfl Z y.cells 34 rfl rfl (by rw [Vx.len HD.out.2.2.1, HZ.out]) (info34 HD.out.2.2.1) (Vx.one y) ?_
          obtain ⟨V3, hV3⟩ : ∃ W, V2.alloc (.cells y.cells.toArray 34) = W := ⟨_, rfl⟩
          obtain ⟨dy, hdy⟩ : ∃ g, V2.heap.size = g := ⟨_, rfl⟩
          have H3 : Hid (Below w.heap.size w V3 ∧ Blk V3 d4 34 a.cells ∧ MP V3 m (unitK met2) ∧ OV (m + 1) V3 u8 n2 work ∧ Blk V3 dy 34 y.cells ∧ w.heap.size ≤ dy ∧ m < dy ∧ (∀ g, u8.ownBlock = some g → g < dy)) := by
            have hbl : Below V2.heap.size V2 V3 := by rw [← hV3]; exact below_al _ _
            refine ⟨below_tr HJ.out.2.1 hbl, HJ.out.2.2.1.below hbl HJ.out.2.2.1.lt, HJ.out.2.2.2.1.same (hbl.block m HJ.out.2.2.2.1.lt), HJ.out.2.2.2.2.1.below hbl, by rw [← hV3, ← hdy]; exact Blk.new V2 _ _, by rw [← hdy]; exact HJ.out.2.1.size, by rw [← hdy]; exact HJ.out.2.2.2.1.lt, fun g hg => ?_⟩
            rw [← hdy]
            rcases HJ.out.2.2.2.2.1.1.2 with ⟨e, _⟩ | ⟨g', cap, cur, e, h2, h3, _⟩
            · rw [e] at hg; cases hg
            · rw [e] at hg; cases hg; exact (Array.getElem?_eq_some_iff.1 h3).1
          rw [hV3, hdy]
          clear hV3 hdy hZ HZ HRD
          cases hya : eqVx y a with
          | true =>
            have HYA : Hid (eqVx y a = true) := hya
            have hyae : y = a := (eqVx_iff y a).1 hya
            have HBt : Hid (B = true) := HG.out.2.2.2.2.2.2 (HJ.out.2.2.2.2.2.1.found (by rw [HL.out, ← hyae]; exact HD.out.2.2.2.2))
            clear hya hyae
            go_wp2_with (first
              | (with_reducible change wpList _ _ _ ({ dst := some 48, op := _, type := _, pos := _, after := _, guard := _ } :: _) _ _
                 refine wpList_load_want rfl 34 (.tmp 12) rfl dy 0 rfl y.cells _ H3.out.2.2.2.2.1.range0 Try.underlying34 rfl (info34 HD.out.2.2.1) ?_)
              | (with_reducible change wpList _ _ _ ({ dst := some 49, op := _, type := _, pos := _, after := _, guard := _ } :: _) _ _
                 refine wpList_load_want rfl 34 (.tmp 4) rfl d4 0 rfl a.cells _ H3.out.2.1.range0 Try.underlying34 rfl (info34 HG.out.2.2.1.1) ?_)
              | (with_reducible change wpList _ _ _ ({ dst := some 50, op := _, type := _, pos := _, after := _, guard := _ } :: _) _ _
                 refine wpList_eqV rfl (.tmp 48) (.tmp 49) rfl y a HD.out.2.2.1 HG.out.2.2.1.1 true HYA.out rfl rfl ?_)
              | fail)
            go_ret
            rw [HBt.out]
            exact ⟨rfl, H3.out.1⟩
          | false =>
            have HYA : Hid (eqVx y a = false) := hya
            have HYN : Hid (y ≠ a) := fun e => by rw [(eqVx_iff y a).2 e] at hya; cases hya
            clear hya
            obtain ⟨M, hM⟩ : ∃ M, decide (y ∈ met2) = M := ⟨_, rfl⟩
            have HMM : Hid (decide (y ∈ met2) = M) := hM
            have HLK : Hid ((Instr.lookup 99 (.map (some m)) (.agg y.cells.toArray) true).run Try.prog V3 = .ok (.tuple #[.agg #[], .bool M]) V3) := by
              have h0 := H3.out.2.2.1.look2 (t := 99) (E := 90) (h := y) Try.underlying99 HD.out.2.2.2.1 (zero90 V3)
              rw [kget_unit, khas_unit, hM] at h0
              exact h0
            clear hM
            go_wp2_with (first
              | (with_reducible change wpList _ _ _ ({ dst := some 48, op := _, type := _, pos := _, after := _, guard := _ } :: _) _ _
                 refine wpList_load_want rfl 34 (.tmp 12) rfl dy 0 rfl y.cells _ H3.out.2.2.2.2.1.range0 Try.underlying34 rfl (info34 HD.out.2.2.1) ?_)
              | (with_reducible change wpList _ _ _ ({ dst := some 49, op := _, type := _, pos := _, after := _, guard := _ } :: _) _ _
                 refine wpList_load_want rfl 34 (.tmp 4) rfl d4 0 rfl a.cells _ H3.out.2.1.range0 Try.underlying34 rfl (info34 HG.out.2.2.1.1) ?_)
              | (with_reducible change wpList _ _ _ ({ dst := some 50, op := _, type := _, pos := _, after := _, guard := _ } :: _) _ _
                 refine wpList_eqV rfl (.tmp 48) (.tmp 49) rfl y a HD.out.2.2.1 HG.out.2.2.1.1 false HYA.out rfl rfl ?_)
              | (with_reducible change wpList _ _ _ ({ dst := some 53, op := _, type := _, pos := _, after := _, guard := _ } :: _) _ _
                 refine wpList_load_want rfl 34 (.tmp 12) rfl dy 0 rfl y.cells _ H3.out.2.2.2.2.1.range0 Try.underlying34 rfl (info34 HD.out.2.2.1) ?_)
              | (with_reducible change wpList _ _ _ ({ dst := some 54, op := _, type := _, pos := _, after := _, guard := _ } :: _) _ _
                 refine wpList_lookup rfl 99 (.tmp 52) (.tmp 53) true rfl _ _ _ rfl rfl HLK.out ?_)
              | fail)
            obtain ⟨V4, hV4⟩ : ∃ V4, V3.alloc (.cells #[] 90) = V4 := ⟨_, rfl⟩
            have H4 : Hid (Below w.heap.size w V4 ∧ Blk V4 d4 34 a.cells ∧ MP V4 m (unitK met2) ∧ OV (m + 1) V4 u8 n2 work ∧ Blk V4 dy 34 y.cells ∧ w.heap.size ≤ dy ∧ m < dy ∧ (∀ g, u8.ownBlock = some g → g < dy)) := by
              have hbl : Below V3.heap.size V3 V4 := by rw [← hV4]; exact below_al _ _
              exact ⟨below_tr H3.out.1 hbl, H3.out.2.1.below hbl H3.out.2.1.lt, H3.out.2.2.1.same (hbl.block m H3.out.2.2.1.lt), H3.out.2.2.2.1.below hbl, H3.out.2.2.2.2.1.below hbl H3.out.2.2.2.2.1.lt, H3.out.2.2.2.2.2⟩
            rw [hV4]
            clear hV4 H3 HLK
            cases M with
            | true =>
              obtain ⟨b2, hb2⟩ : ∃ b2, eqVx y vTop = b2 := ⟨_, rfl⟩
              refine ld13t H4.out.2.2.2.2.1.lt H4.out.2.2.2.2.1.range0 HD.out.2.2.1 hb2 ?_
              intro V5 hb5
              have H5 : Hid (Below w.heap.size w V5 ∧ Blk V5 d4 34 a.cells ∧ MP V5 m (unitK met2) ∧ OV (m + 1) V5 u8 n2 work) := ⟨below_tr H4.out.1 hb5, H4.out.2.1.below hb5 H4.out.2.1.lt, H4.out.2.2.1.same (hb5.block m H4.out.2.2.1.lt), H4.out.2.2.2.1.below hb5⟩
              clear hb5 hb2 H4
              go_wp2
              refine ⟨⟨j + 1, n2, work, met2, by simp, ⟨HD.out.1, H5.out.1, H5.out.2.1, H5.out.2.2.1, H5.out.2.2.2, ?_, HJ.out.2.2.2.2.2.2⟩⟩, ?_⟩
              · rw [List.take_add_one, HD.out.2.1]
                exact HJ.out.2.2.2.2.2.1.old HYN.out (.inl (by simpa using HMM.out))
              · have := HD.out.1; simp [intOf]; omega
            | false =>
              cases hb2 : eqVx y vTop with
              | true =>
                refine ld13f H4.out.2.2.2.2.1.lt H4.out.2.2.2.2.1.range0 HD.out.2.2.1 hb2 ?_
                intro V5 hb5
                have H5 : Hid (Below w.heap.size w V5 ∧ Blk V5 d4 34 a.cells ∧ MP V5 m (unitK met2) ∧ OV (m + 1) V5 u8 n2 work) := ⟨below_tr H4.out.1 hb5, H4.out.2.1.below hb5 H4.out.2.1.lt, H4.out.2.2.1.same (hb5.block m H4.out.2.2.1.lt), H4.out.2.2.2.1.below hb5⟩
                have hyt := (eqVx_iff y vTop).1 hb2
                clear hb5 hb2 H4
                go_wp2
                refine ⟨⟨j + 1, n2, work, met2, by simp, ⟨HD.out.1, H5.out.1, H5.out.2.1, H5.out.2.2.1, H5.out.2.2.2, ?_, HJ.out.2.2.2.2.2.2⟩⟩, ?_⟩
                · rw [List.take_add_one, HD.out.2.1]
                  exact HJ.out.2.2.2.2.2.1.old HYN.out (.inr hyt)
                · have := HD.out.1; simp [intOf]; omega
              | false =>
                refine ld13f H4.out.2.2.2.2.1.lt H4.out.2.2.2.2.1.range0 HD.out.2.2.1 hb2 ?_
                intro V5 hb5
                have hyt : y ≠ vTop := fun e => by rw [(eqVx_iff y vTop).2 e] at hb2; cases hb2
                have H5 : Hid (Below w.heap.size w V5 ∧ Blk V5 d4 34 a.cells ∧ MP V5 m (unitK met2) ∧ OV (m + 1) V5 u8 n2 work ∧ Blk V5 dy 34 y.cells ∧ y ≠ vTop ∧ y ∉ met2) := ⟨below_tr H4.out.1 hb5, H4.out.2.1.below hb5 H4.out.2.1.lt, H4.out.2.2.1.same (hb5.block m H4.out.2.2.1.lt), H4.out.2.2.2.1.below hb5, H4.out.2.2.2.2.1.below hb5 H4.out.2.2.2.2.1.lt, hyt, by simpa using HMM.out⟩
                have HDY : Hid (m < dy ∧ (∀ g, u8.ownBlock = some g → g < dy)) := H4.out.2.2.2.2.2.2
                clear hb5 hb2 H4 hyt
                go_wp2_with (first
                  | (with_reducible change wpList _ _ _ ({ dst := some 64, op := _, type := _, pos := _, after := _, guard := _ } :: _) _ _
                     refine wpList_load_want rfl 34 (.tmp 12) rfl dy 0 rfl y.cells _ H5.out.2.2.2.2.1.range0 Try.underlying34 rfl (info34 HD.out.2.2.1) ?_)
                  | (with_reducible change wpList _ _ _ ({ dst := none, op := Op.mapUpdate 99 _ _ _, type := _, pos := _, after := _, guard := _ } :: _) _ _
                     refine Hid.out ?_)
                  | fail)
                show wpList _ _ _ _ _ _
                refine wpList_mapUp rfl 99 (.tmp 63) (.tmp 64) (.tmp 65) (.inl rfl) _ _ _ rfl rfl rfl (fun w' => MP w' m (unitK (met2 ++ [y])) ∧ V5.grownBy w' (some m)) (by
                  obtain ⟨w', r1, r2, r3, r4⟩ := H5.out.2.2.1.put (t := 99) (E := 90) (h := y) Try.underlying99 HD.out.2.2.2.1 (.agg #[])
                  exact ⟨w', r1, by have := r2; rw [kput_unit, if_neg H5.out.2.2.2.2.2.2] at this; exact this, r3⟩) ?_
                intro V6 ⟨r1, r2⟩
                have H6 : Hid (Below w.heap.size w V6 ∧ Blk V6 d4 34 a.cells ∧ MP V6 m (unitK (met2 ++ [y])) ∧ OV (m + 1) V6 u8 n2 work ∧ Blk V6 dy 34 y.cells) := by
                  have hk : ∀ k, k < V5.heap.size → k ≠ m → V6.heap[k]? = V5.heap[k]? := fun k hk hne => r2.block k hk (fun e => by cases e; exact hne rfl)
                  refine ⟨H5.out.1.grown r2 H5.out.1.size (fun k hk => by cases hk; exact HM.out.2), (hk d4 H5.out.2.1.lt (by have := HM.out.1; omega)).trans H5.out.2.1, r1, H5.out.2.2.2.1.kept r2 (by omega), (hk dy H5.out.2.2.2.2.1.lt (by have := HDY.out.1; omega)).trans H5.out.2.2.2.2.1⟩
                clear r1 r2
                go_wp2_with (first
                  | (with_reducible change wpList _ _ _ ({ dst := some 67, op := _, type := _, pos := _, after := _, guard := _ } :: _) _ _
                     refine wpList_load_want rfl 34 (.tmp 12) rfl dy 0 rfl y.cells _ H6.out.2.2.2.2.range0 Try.underlying34 rfl (info34 HD.out.2.2.1) ?_)
                  | (with_reducible change wpList _ _ _ ({ dst := some 68, op := _, type := _, pos := _, after := _, guard := _ } :: _) _ _
                     refine wpList_bslice1 rfl (.tmp 67) rfl y HD.out.2.2.1 rfl ?_)
                  | (with_reducible change wpList _ _ _ ({ dst := some 69, op := _, type := _, pos := _, after := _, guard := _ } :: _) _ _
                     refine Hid.out ?_)
                  | fail)
                show wpList _ _ _ _ _ _
                obtain ⟨V7, hV7⟩ : ∃ W, V6.alloc (.cells y.cells.toArray 34) = W := ⟨_, rfl⟩
                obtain ⟨d7, hd7⟩ : ∃ g, V6.heap.size = g := ⟨_, rfl⟩
                have H7 : Hid (Below w.heap.size w V7 ∧ Blk V7 d4 34 a.cells ∧ MP V7 m (unitK (met2 ++ [y])) ∧ OV (m + 1) V7 u8 n2 work ∧ VsR V7 (some ⟨d7, 0, none⟩) 1 [y]) := by
                  have hbl : Below V6.heap.size V6 V7 := by rw [← hV7]; exact below_al _ _
                  exact ⟨below_tr H6.out.1 hbl, H6.out.2.1.below hbl H6.out.2.1.lt, H6.out.2.2.1.same (hbl.block m H6.out.2.2.1.lt), H6.out.2.2.2.1.below hbl, by rw [← hV7, ← hd7]; exact VsR.one V6 y HD.out.2.2.2.1⟩
                rw [hV7, hd7]
                clear hV7 hd7
                refine wpList_app rfl (.tmp 66) (.tmp 68) rfl (m + 1) u8 n2 work (some ⟨d7, 0, none⟩) 1 1 [y] rfl rfl H7.out.2.2.2.1 H7.out.2.2.2.2 (by have h2 := HM2.out; have h4 := HT.out.2; omega) H7.out.2.2.1.lt ?_
                intro v' V8 r1 r2 r3
                have H8 : Hid (Below w.heap.size w V8 ∧ Blk V8 d4 34 a.cells ∧ MP V8 m (unitK (met2 ++ [y])) ∧ OV (m + 1) V8 v' (n2 + 1) (work ++ [y])) := by
                  have hno : ∀ k, k ≤ m → k < V7.heap.size → V8.heap[k]? = V7.heap[k]? := fun k hk hlt => r2.block k hlt (fun e => by
                    rcases H7.out.2.2.2.1.1.2 with ⟨e0, _⟩ | ⟨g', cap, cur, e0, h2, h3, _⟩
                    · rw [e0] at e; cases e
                    · rw [e0] at e
                      have e9 : k = g' := Option.some.inj e
                      omega)
                  refine ⟨⟨r2.os.trans H7.out.1.os, r2.tape.trans H7.out.1.tape, r2.output.trans H7.out.1.output, Nat.le_trans H7.out.1.size r2.size, fun k hk => (hno k (by have := HM.out.2; omega) (Nat.lt_of_lt_of_le hk H7.out.1.size)).trans (H7.out.1.block k hk)⟩, (hno d4 (by have := HM.out.1; omega) H7.out.2.1.lt).trans H7.out.2.1, H7.out.2.2.1.same (hno m (Nat.le_refl _) H7.out.2.2.1.lt), r1⟩
                clear r1 r2 r3
                go_wp2
                refine ⟨⟨j + 1, n2 + 1, work ++ [y], met2 ++ [y], by simp, ⟨HD.out.1, H8.out.1, H8.out.2.1, H8.out.2.2.1, H8.out.2.2.2, ?_, by have := HJ.out.2.2.2.2.2.2.1; simp; omega, by have := HJ.out.2.2.2.2.2.2.2; simp; omega⟩⟩, ?_⟩
                · rw [List.take_add_one, HD.out.2.1]
                  exact HJ.out.2.2.2.2.2.1.push HYN.out H5.out.2.2.2.2.2.1 H5.out.2.2.2.2.2.2 (by rw [HL.out]; exact HD.out.2.2.2.2)
                · have := HD.out.1; simp [intOf]; omega
        · have q5 : ¬ (j : Int) < (nn : Int) := by omega
          obtain ⟨a9, c9, e9, _, _⟩ := HJ.out.2.2.2.2.1.read
          subst e9
          go_wp2
          refine ⟨⟨n2, work, met2, ⟨HJ.out.2.1, HJ.out.2.2.1, HJ.out.2.2.2.1, HJ.out.2.2.2.2.1, ?_⟩⟩, ?_⟩
          · have := HJ.out.2.2.2.2.2.1
            rw [List.take_of_length_le (by rw [HNN.out]; omega), ← HL.out] at this
            exact this.done
          · have h1 := HJ.out.2.2.2.2.2.2
            have h2 := HJ.out.2.2.2.1.count
            rw [unitK_len] at h2
            have h3 := HK.out.2.1
            have h4 := HM2.out
            have h5 := HF.out.2.2.1
            have h7 := HK.out.1
            show 2 * (T - countOf V2 m) + n2 < 2 * (T - countOf V m) + (n + 1)
            rw [h2, h3]
            omega
end Go.Proofs.Ytjcihaohpbmogaa.Oct
