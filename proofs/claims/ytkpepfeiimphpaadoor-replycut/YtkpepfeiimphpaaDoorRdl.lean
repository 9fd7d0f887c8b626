/-
  Layer 24 (reply): what the program reads with: line.
-/
import Derived.Test.YtkpepfeiimphpaaDoorRdb
import Derived.Test.YtkpepfeiimphpaaDoorCut
namespace Go.Proofs.YtkpepfeiimphpaaDoor.Oct
open Go.RowKit
set_option linter.unusedSimpArgs false
set_option linter.unusedVariables false

/-- internal/bytealg.MaxLen holds a number -/
def MX (w : World) : Prop := 1 < w.heap.size ∧ ∃ m : Int, w.cell? ⟨1, 0, none⟩ = some (.int .i64 m)
theorem MX.below {w w' : World} (h : MX w) (hb : Below w.heap.size w w') : MX w' := ⟨Nat.lt_of_lt_of_le h.1 hb.size, h.2.elim fun m hm => ⟨m, (hb.cell (p := ⟨1, 0, none⟩) h.1).trans hm⟩⟩
theorem MX.grown {w w' : World} {g : Nat} (h : MX w) (hg : w.grownBy w' (some g)) (hne : g ≠ 1) : MX w' := by
  obtain ⟨h1, m, hm⟩ := h
  refine ⟨Nat.lt_of_lt_of_le h1 hg.size, m, ?_⟩
  have e := hg.block 1 h1 (by simp; omega)
  rw [← hm]
  unfold World.cell?
  simp only [e]
theorem cut_b (s sep : BA) (w : World) (hs : s.size ≤ 140000) (hm : MX w) : Calls Tryd.prog 38 #[.string s, .string sep] w fun e w' => e = .returned (.tuple #[.string ⟨(Lib.cut s.data.toList sep.data.toList).1.toArray⟩, .string ⟨(Lib.cut s.data.toList sep.data.toList).2.1.toArray⟩, .bool (Lib.cut s.data.toList sep.data.toList).2.2]) ∧ Below w.heap.size w w' := by
  obtain ⟨_, m, hm⟩ := hm
  refine (cut_is s sep m w (by omega) hm).mono ?_
  rintro e w' ⟨rfl, n, rfl⟩
  exact ⟨rfl, rfl, rfl, rfl, Nat.le_refl _, fun _ _ => rfl⟩
set_option maxRecDepth 100000 in
set_option maxHeartbeats 4000000 in
theorem ln1 {Q : Exit → Act → World → Prop} {x1 x2 x3 x4 x5 x6 x7 x8 x9 x10 x11 x12 x13 x14 x15 x16 x17 x18 x19 x20 x21 x22 x23 x24 x25 x26 x27 x28 x29 x30 x31 x32 x33 x34 x35 : Value} {ds : List Deferred} {A : World} {g a : Nat} {s u1 u2 : BA} {B : Bool}
    (HL : Hid (g < A.heap.size)) (c0 : A.cell? ⟨g, 0, none⟩ = some (.string s)) (c1 : A.cell? ⟨g, 1, none⟩ = some (iv (a : Int))) (HZ : Hid (a ≤ s.size ∧ s.size ≤ 140737488355328)) (HCU : Hid (∀ V, Below A.heap.size A V → Calls Tryd.prog 38 #[.string (s.extract a s.size), .string ⟨#[13, 10]⟩] V fun e V2 => e = .returned (.tuple #[.string u1, .string u2, .bool B]) ∧ Below V.heap.size V V2))
    (hQ : ∀ V1, Below A.heap.size A V1 → Q .normal { tmps := #[.pointer (some ⟨g, 0, none⟩), x1, x2, x3, .string u1, .string u2, .bool B, .tuple #[.string u1, .string u2, .bool B], .pointer (some ⟨g, 0, none⟩), .pointer (some ⟨g, 0, none⟩), .pointer (some ⟨g, 0, none⟩), .string s, .pointer (some ⟨g, 0, none⟩), .pointer (some ⟨g, 0, none⟩), .pointer (some ⟨g, 1, none⟩), iv (a : Int), .string (s.extract a s.size), .tuple #[.string u1, .string u2, .bool B], .string u1, .string u2, .bool B, x21, x22, x23, x24, x25, x26, x27, x28, x29, x30, x31, x32, x33, x34, x35], defers := ds } V1) :
    (Code.region 1 #[{ dst := some 8, op := Op.move (Operand.tmp 0), type := 54, pos := "read.go:59", after := #[], guard := none }, { dst := some 9, op := Op.nilCheck (Operand.tmp 8), type := 0, pos := "read.go:59", after := #[{ on := 0, ground := Ground.data }], guard := none }, { dst := some 10, op := Op.fieldAddr 44 (Operand.tmp 9) 0, type := 0, pos := "read.go:59", after := #[{ on := 1, ground := Ground.data }], guard := none }, { dst := some 11, op := Op.load 9 (Operand.tmp 10), type := 9, pos := "read.go:59", after := #[{ on := 2, ground := Ground.data }], guard := none }, { dst := some 12, op := Op.move (Operand.tmp 0), type := 54, pos := "read.go:59", after := #[], guard := none }, { dst := some 13, op := Op.nilCheck (Operand.tmp 12), type := 0, pos := "read.go:59", after := #[{ on := 4, ground := Ground.data }], guard := none }, { dst := some 14, op := Op.fieldAddr 44 (Operand.tmp 13) 1, type := 0, pos := "read.go:59", after := #[{ on := 5, ground := Ground.data }], guard := none }, { dst := some 15, op := Op.load 3 (Operand.tmp 14), type := 3, pos := "read.go:59", after := #[{ on := 6, ground := Ground.data }], guard := none }, { dst := some 16, op := Op.slice 9 (Operand.tmp 11) (some (Operand.tmp 15)) none none, type := 9, pos := "read.go:59", after := #[{ on := 3, ground := Ground.data }, { on := 7, ground := Ground.data }], guard := none }, { dst := some 17, op := Op.call { callee := Callee.value (Operand.func 38), args := #[Operand.tmp 16, Operand.const (Value.string { data := #[13, 10] })], argTypes := #[9, 9] }, type := 62, pos := "read.go:59", after := #[{ on := 8, ground := Ground.data }], guard := none }, { dst := some 7, op := Op.move (Operand.tmp 17), type := 62, pos := "read.go:59", after := #[{ on := 9, ground := Ground.data }], guard := none }, { dst := some 18, op := Op.extract (Operand.tmp 7) 0, type := 9, pos := "read.go:59", after := #[{ on := 10, ground := Ground.data }], guard := none }, { dst := some 19, op := Op.extract (Operand.tmp 7) 1, type := 9, pos := "read.go:59", after := #[{ on := 10, ground := Ground.data }, { on := 14, ground := Ground.gcOnly Departure.lateStores }], guard := none }, { dst := some 20, op := Op.extract (Operand.tmp 7) 2, type := 4, pos := "read.go:59", after := #[{ on := 10, ground := Ground.data }, { on := 15, ground := Ground.gcOnly Departure.lateStores }], guard := none }, { dst := some 4, op := Op.assign (Operand.tmp 18), type := 9, pos := "read.go:59", after := #[{ on := 11, ground := Ground.data }, { on := 9, ground := Ground.chain }, { on := 0, ground := Ground.phase }, { on := 1, ground := Ground.phase }, { on := 2, ground := Ground.phase }, { on := 3, ground := Ground.phase }, { on := 4, ground := Ground.phase }, { on := 5, ground := Ground.phase }, { on := 6, ground := Ground.phase }, { on := 7, ground := Ground.phase }, { on := 8, ground := Ground.phase }, { on := 9, ground := Ground.phase }, { on := 10, ground := Ground.phase }, { on := 11, ground := Ground.phase }, { on := 12, ground := Ground.textOnly Departure.lateStores }, { on := 13, ground := Ground.textOnly Departure.lateStores }], guard := none }, { dst := some 5, op := Op.assign (Operand.tmp 19), type := 9, pos := "read.go:59", after := #[{ on := 12, ground := Ground.data }, { on := 14, ground := Ground.chain }, { on := 0, ground := Ground.phase }, { on := 1, ground := Ground.phase }, { on := 2, ground := Ground.phase }, { on := 3, ground := Ground.phase }, { on := 4, ground := Ground.phase }, { on := 5, ground := Ground.phase }, { on := 6, ground := Ground.phase }, { on := 7, ground := Ground.phase }, { on := 8, ground := Ground.phase }, { on := 9, ground := Ground.phase }, { on := 10, ground := Ground.phase }, { on := 11, ground := Ground.phase }, { on := 12, ground := Ground.phase }, { on := 13, ground := Ground.textOnly Departure.lateStores }, { on := 14, ground := Ground.phase }], guard := none }, { dst := some 6, op := Op.assign (Operand.tmp 20), type := 4, pos := "read.go:59", after := #[{ on := 13, ground := Ground.data }, { on := 15, ground := Ground.chain }, { on := 0, ground := Ground.phase }, { on := 1, ground := Ground.phase }, { on := 2, ground := Ground.phase }, { on := 3, ground := Ground.phase }, { on := 4, ground := Ground.phase }, { on := 5, ground := Ground.phase }, { on := 6, ground := Ground.phase }, { on := 7, ground := Ground.phase }, { on := 8, ground := Ground.phase }, { on := 9, ground := Ground.phase }, { on := 10, ground := Ground.phase }, { on := 11, ground := Ground.phase }, { on := 12, ground := Ground.phase }, { on := 13, ground := Ground.phase }, { on := 14, ground := Ground.phase }, { on := 15, ground := Ground.phase }], guard := none }] true).wp Tryd.prog Q { tmps := #[.pointer (some ⟨g, 0, none⟩), x1, x2, x3, x4, x5, x6, x7, x8, x9, x10, x11, x12, x13, x14, x15, x16, x17, x18, x19, x20, x21, x22, x23, x24, x25, x26, x27, x28, x29, x30, x31, x32, x33, x34, x35], defers := ds } A := by
  refine Code.wp_mono (Q := fun x a' w' => match x with | .normal => Q .normal a' w' | _ => False) (by intro x a' w' h; cases x <;> first | exact h | exact h.elim) ?_
  refine wp_region_held (S := fun V => Below A.heap.size A V) (by kernel_rfl) ?_
  have hS0 : Hid (Below A.heap.size A A.drew) := below_drew0 A
  change wpAnyH Tryd.prog .any _ _ (fun V => Below A.heap.size A V) 17 (Array.replicate 17 false) _ A.drew
  obtain ⟨V0, hV0⟩ : ∃ V0, A.drew = V0 := ⟨_, rfl⟩
  rw [hV0]
  rw [hV0] at hS0
  clear hV0
  refine wpAnyH_take (i := 0) (oi := { dst := some 8, op := Op.move (Operand.tmp 0), type := 54, pos := "read.go:59", after := #[], guard := none }) (v := .pointer (some ⟨g, 0, none⟩)) rfl (by kernel_rfl) (by kernel_rfl) (by kernel_rfl) (fun _ _ _ h => h.elim) (Or.inl ⟨by rfl, ?y1⟩) hS0.out ?_
  case y1 =>
    intro V hV
    go_simp
  simp only [Act.put, List.setIfInBounds_toArray, List.set_cons_zero, List.set_cons_succ]
  refine wpAnyH_take (i := 1) (oi := { dst := some 9, op := Op.nilCheck (Operand.tmp 8), type := 0, pos := "read.go:59", after := #[{ on := 0, ground := Ground.data }], guard := none }) (v := .pointer (some ⟨g, 0, none⟩)) rfl (by kernel_rfl) (by kernel_rfl) (by kernel_rfl) (fun _ _ _ h => h.elim) (Or.inl ⟨by rfl, ?y2⟩) hS0.out ?_
  case y2 =>
    intro V hV
    go_simp
  simp only [Act.put, List.setIfInBounds_toArray, List.set_cons_zero, List.set_cons_succ]
  refine wpAnyH_take (i := 2) (oi := { dst := some 10, op := Op.fieldAddr 44 (Operand.tmp 9) 0, type := 0, pos := "read.go:59", after := #[{ on := 1, ground := Ground.data }], guard := none }) (v := .pointer (some ⟨g, 0, none⟩)) rfl (by kernel_rfl) (by kernel_rfl) (by kernel_rfl) (fun _ _ _ h => h.elim) (Or.inl ⟨by rfl, ?y3⟩) hS0.out ?_
  case y3 =>
    intro V hV
    go_simp
  simp only [Act.put, List.setIfInBounds_toArray, List.set_cons_zero, List.set_cons_succ]
  refine wpAnyH_take (i := 3) (oi := { dst := some 11, op := Op.load 9 (Operand.tmp 10), type := 9, pos := "read.go:59", after := #[{ on := 2, ground := Ground.data }], guard := none }) (v := .string s) rfl (by kernel_rfl) (by kernel_rfl) (by kernel_rfl) (fun _ _ _ h => h.elim) (Or.inl ⟨by rfl, ?y4⟩) hS0.out ?_
  case y4 =>
    intro V hV
    have hc : V.cell? ⟨g, 0, none⟩ = some (.string s) := ((show Below A.heap.size A V from hV).cell (p := ⟨g, 0, none⟩) (HL.out)).trans c0
    go_simp
  simp only [Act.put, List.setIfInBounds_toArray, List.set_cons_zero, List.set_cons_succ]
  refine wpAnyH_take (i := 4) (oi := { dst := some 12, op := Op.move (Operand.tmp 0), type := 54, pos := "read.go:59", after := #[], guard := none }) (v := .pointer (some ⟨g, 0, none⟩)) rfl (by kernel_rfl) (by kernel_rfl) (by kernel_rfl) (fun _ _ _ h => h.elim) (Or.inl ⟨by rfl, ?y5⟩) hS0.out ?_
  case y5 =>
    intro V hV
    go_simp
  simp only [Act.put, List.setIfInBounds_toArray, List.set_cons_zero, List.set_cons_succ]
  refine wpAnyH_take (i := 5) (oi := { dst := some 13, op := Op.nilCheck (Operand.tmp 12), type := 0, pos := "read.go:59", after := #[{ on := 4, ground := Ground.data }], guard := none }) (v := .pointer (some ⟨g, 0, none⟩)) rfl (by kernel_rfl) (by kernel_rfl) (by kernel_rfl) (fun _ _ _ h => h.elim) (Or.inl ⟨by rfl, ?y6⟩) hS0.out ?_
  case y6 =>
    intro V hV
    go_simp
  simp only [Act.put, List.setIfInBounds_toArray, List.set_cons_zero, List.set_cons_succ]
  refine wpAnyH_take (i := 6) (oi := { dst := some 14, op := Op.fieldAddr 44 (Operand.tmp 13) 1, type := 0, pos := "read.go:59", after := #[{ on := 5, ground := Ground.data }], guard := none }) (v := .pointer (some ⟨g, 1, none⟩)) rfl (by kernel_rfl) (by kernel_rfl) (by kernel_rfl) (fun _ _ _ h => h.elim) (Or.inl ⟨by rfl, ?y7⟩) hS0.out ?_
  case y7 =>
    intro V hV
    go_simp
  simp only [Act.put, List.setIfInBounds_toArray, List.set_cons_zero, List.set_cons_succ]
  refine wpAnyH_take (i := 7) (oi := { dst := some 15, op := Op.load 3 (Operand.tmp 14), type := 3, pos := "read.go:59", after := #[{ on := 6, ground := Ground.data }], guard := none }) (v := iv (a : Int)) rfl (by kernel_rfl) (by kernel_rfl) (by kernel_rfl) (fun _ _ _ h => h.elim) (Or.inl ⟨by rfl, ?y8⟩) hS0.out ?_
  case y8 =>
    intro V hV
    have hc : V.cell? ⟨g, 1, none⟩ = some (iv (a : Int)) := ((show Below A.heap.size A V from hV).cell (p := ⟨g, 1, none⟩) (HL.out)).trans c1
    go_simp
  simp only [Act.put, List.setIfInBounds_toArray, List.set_cons_zero, List.set_cons_succ]
  refine wpAnyH_take (i := 8) (oi := { dst := some 16, op := Op.slice 9 (Operand.tmp 11) (some (Operand.tmp 15)) none none, type := 9, pos := "read.go:59", after := #[{ on := 3, ground := Ground.data }, { on := 7, ground := Ground.data }], guard := none }) (v := .string (s.extract a s.size)) rfl (by kernel_rfl) (by kernel_rfl) (by kernel_rfl) (fun _ _ _ h => h.elim) (Or.inl ⟨by rfl, ?y9⟩) hS0.out ?_
  case y9 =>
    intro V hV
    exact yl_from V (.tmp 11) (.tmp 15) _ _ rfl rfl rfl HZ.out.1 HZ.out.2
  simp only [Act.put, List.setIfInBounds_toArray, List.set_cons_zero, List.set_cons_succ]
  refine wpAnyH_ready (rs := [9]) (by kernel_rfl) (by simp) (AllReadyH.cons (i := 9) (o := { dst := some 17, op := Op.call { callee := Callee.value (Operand.func 38), args := #[Operand.tmp 16, Operand.const (Value.string { data := #[13, 10] })], argTypes := #[9, 9] }, type := 62, pos := "read.go:59", after := #[{ on := 8, ground := Ground.data }], guard := none }) rfl ?_ AllReadyH.nil)
  · intro K1 hK1
    rw [if_pos (by rfl)]
    have HC1 := HCU.out V0 hS0.out
    go_wp2_with fail
    refine HC1.mono ?_
    rintro e V1 ⟨rfl, hb1⟩
    dsimp only
    clear HC1
    have hS1 : Hid (Below A.heap.size A V1) := hS0.out.trans (hb1.mono hS0.out.size)
    clear hb1
    refine hK1.out _ _ hS1.out ?_
    clear hK1
    intro _
    try simp only [Act.put, List.setIfInBounds_toArray, List.set_cons_zero, List.set_cons_succ]
    refine wpAnyH_take (i := 10) (oi := { dst := some 7, op := Op.move (Operand.tmp 17), type := 62, pos := "read.go:59", after := #[{ on := 9, ground := Ground.data }], guard := none }) (v := .tuple #[.string u1, .string u2, .bool B]) rfl (by kernel_rfl) (by kernel_rfl) (by kernel_rfl) (fun _ _ _ h => h.elim) (Or.inl ⟨by rfl, ?y10⟩) hS1.out ?_
    case y10 =>
      intro V hV
      go_simp
    simp only [Act.put, List.setIfInBounds_toArray, List.set_cons_zero, List.set_cons_succ]
    refine wpAnyH_take (i := 11) (oi := { dst := some 18, op := Op.extract (Operand.tmp 7) 0, type := 9, pos := "read.go:59", after := #[{ on := 10, ground := Ground.data }], guard := none }) (v := .string u1) rfl (by kernel_rfl) (by kernel_rfl) (by kernel_rfl) (fun _ _ _ h => h.elim) (Or.inl ⟨by rfl, ?y11⟩) hS1.out ?_
    case y11 =>
      intro V hV
      go_simp
    simp only [Act.put, List.setIfInBounds_toArray, List.set_cons_zero, List.set_cons_succ]
    refine wpAnyH_take (i := 12) (oi := { dst := some 19, op := Op.extract (Operand.tmp 7) 1, type := 9, pos := "read.go:59", after := #[{ on := 10, ground := Ground.data }, { on := 14, ground := Ground.gcOnly Departure.lateStores }], guard := none }) (v := .string u2) rfl (by kernel_rfl) (by kernel_rfl) (by kernel_rfl) (fun _ _ _ h => h.elim) (Or.inl ⟨by rfl, ?y12⟩) hS1.out ?_
    case y12 =>
      intro V hV
      go_simp
    simp only [Act.put, List.setIfInBounds_toArray, List.set_cons_zero, List.set_cons_succ]
    refine wpAnyH_take (i := 13) (oi := { dst := some 20, op := Op.extract (Operand.tmp 7) 2, type := 4, pos := "read.go:59", after := #[{ on := 10, ground := Ground.data }, { on := 15, ground := Ground.gcOnly Departure.lateStores }], guard := none }) (v := .bool B) rfl (by kernel_rfl) (by kernel_rfl) (by kernel_rfl) (fun _ _ _ h => h.elim) (Or.inl ⟨by rfl, ?y13⟩) hS1.out ?_
    case y13 =>
      intro V hV
      go_simp
    simp only [Act.put, List.setIfInBounds_toArray, List.set_cons_zero, List.set_cons_succ]
    refine wpAnyH_take (i := 14) (oi := { dst := some 4, op := Op.assign (Operand.tmp 18), type := 9, pos := "read.go:59", after := #[{ on := 11, ground := Ground.data }, { on := 9, ground := Ground.chain }, { on := 0, ground := Ground.phase }, { on := 1, ground := Ground.phase }, { on := 2, ground := Ground.phase }, { on := 3, ground := Ground.phase }, { on := 4, ground := Ground.phase }, { on := 5, ground := Ground.phase }, { on := 6, ground := Ground.phase }, { on := 7, ground := Ground.phase }, { on := 8, ground := Ground.phase }, { on := 9, ground := Ground.phase }, { on := 10, ground := Ground.phase }, { on := 11, ground := Ground.phase }, { on := 12, ground := Ground.textOnly Departure.lateStores }, { on := 13, ground := Ground.textOnly Departure.lateStores }], guard := none }) (v := .string u1) rfl (by kernel_rfl) (by kernel_rfl) (by kernel_rfl) (fun _ _ _ h => h.elim) (Or.inl ⟨by rfl, ?y14⟩) hS1.out ?_
    case y14 =>
      intro V hV
      go_simp
    simp only [Act.put, List.setIfInBounds_toArray, List.set_cons_zero, List.set_cons_succ]
    refine wpAnyH_take (i := 15) (oi := { dst := some 5, op := Op.assign (Operand.tmp 19), type := 9, pos := "read.go:59", after := #[{ on := 12, ground := Ground.data }, { on := 14, ground := Ground.chain }, { on := 0, ground := Ground.phase }, { on := 1, ground := Ground.phase }, { on := 2, ground := Ground.phase }, { on := 3, ground := Ground.phase }, { on := 4, ground := Ground.phase }, { on := 5, ground := Ground.phase }, { on := 6, ground := Ground.phase }, { on := 7, ground := Ground.phase }, { on := 8, ground := Ground.phase }, { on := 9, ground := Ground.phase }, { on := 10, ground := Ground.phase }, { on := 11, ground := Ground.phase }, { on := 12, ground := Ground.phase }, { on := 13, ground := Ground.textOnly Departure.lateStores }, { on := 14, ground := Ground.phase }], guard := none }) (v := .string u2) rfl (by kernel_rfl) (by kernel_rfl) (by kernel_rfl) (fun _ _ _ h => h.elim) (Or.inl ⟨by rfl, ?y15⟩) hS1.out ?_
    case y15 =>
      intro V hV
      go_simp
    simp only [Act.put, List.setIfInBounds_toArray, List.set_cons_zero, List.set_cons_succ]
    refine wpAnyH_take (i := 16) (oi := { dst := some 6, op := Op.assign (Operand.tmp 20), type := 4, pos := "read.go:59", after := #[{ on := 13, ground := Ground.data }, { on := 15, ground := Ground.chain }, { on := 0, ground := Ground.phase }, { on := 1, ground := Ground.phase }, { on := 2, ground := Ground.phase }, { on := 3, ground := Ground.phase }, { on := 4, ground := Ground.phase }, { on := 5, ground := Ground.phase }, { on := 6, ground := Ground.phase }, { on := 7, ground := Ground.phase }, { on := 8, ground := Ground.phase }, { on := 9, ground := Ground.phase }, { on := 10, ground := Ground.phase }, { on := 11, ground := Ground.phase }, { on := 12, ground := Ground.phase }, { on := 13, ground := Ground.phase }, { on := 14, ground := Ground.phase }, { on := 15, ground := Ground.phase }], guard := none }) (v := .bool B) rfl (by kernel_rfl) (by kernel_rfl) (by kernel_rfl) (fun _ _ _ h => h.elim) (Or.inl ⟨by rfl, ?y16⟩) hS1.out ?_
    case y16 =>
      intro V hV
      go_simp
    simp only [Act.put, List.setIfInBounds_toArray, List.set_cons_zero, List.set_cons_succ]
    refine wpAnyH_done (by kernel_rfl) ?_ _
    exact hQ V1 hS1.out
#print axioms ln1
/-- what is left of a line -/
def lnF (l : List UInt8) : List UInt8 × List UInt8 × Bool := Lib.cut l crL
theorem cut_sz (l p : List UInt8) : (Lib.cut l p).1.length ≤ l.length := by
  unfold Lib.cut
  split
  · rw [List.length_take]; omega
  · exact Nat.le_refl _
/-- found: the text is the line, the separator, and what is left -/
theorem cut_yes {l p : List UInt8} (h : (Lib.cut l p).2.2 = true) : (Lib.cut l p).2.1 = l.drop ((Lib.cut l p).1.length + p.length) ∧ (Lib.cut l p).1.length + p.length ≤ l.length := by
  have hc : Lib.index l p = -1 ∨ ∃ i : Nat, Lib.index l p = i ∧ i + p.length ≤ l.length := by
    have := Lib.indexB_cases ⟨l.toArray⟩ ⟨p.toArray⟩
    exact this
  rcases hc with hi | ⟨i, hi, hle⟩
  · unfold Lib.cut at h
    rw [hi, if_neg (by omega)] at h
    cases h
  · have e : Lib.cut l p = (l.take i, l.drop (i + p.length), true) := by
      unfold Lib.cut
      rw [hi, if_pos (by omega)]
      simp
    rw [e]
    dsimp only
    rw [List.length_take, Nat.min_eq_left (by omega)]
    exact ⟨rfl, hle⟩
def LnP (w : World) (g a : Nat) (s ty bo : BA) (st : Int) (cl : Bool) (e : Ending) (w' : World) : Prop :=
    ((lnF (s.data.toList.drop a)).2.2 = false ∧ e = .returned (.tuple #[.string e0, gvE (a : Int)]) ∧ Blk w' g 44 (rdc s (a : Int) st ty bo cl) ∧ w.grownBy w' (some g)) ∨
    ((lnF (s.data.toList.drop a)).2.2 = true ∧ ∃ (x : BA) (a' : Nat), e = .returned (.tuple #[.string x, .nilIface]) ∧ Hid (x.data.toList = (lnF (s.data.toList.drop a)).1 ∧ Blk w' g 44 (rdc s (a' : Int) st ty bo cl) ∧ a' ≤ s.size ∧ s.data.toList.drop a' = (lnF (s.data.toList.drop a)).2.1 ∧ a ≤ a' ∧ w.grownBy w' (some g)))
set_option maxRecDepth 100000 in
set_option maxHeartbeats 1000000 in
theorem line_is {w : World} {g a : Nat} {s ty bo : BA} {st : Int} {cl : Bool} (h : Blk w g 44 (rdc s (a : Int) st ty bo cl)) (hm : MX w) (ha : a ≤ s.size) (hs : s.size ≤ 140000) : Calls Tryd.prog 37 #[.pointer (some ⟨g, 0, none⟩)] w (LnP w g a s ty bo st cl) := by
  obtain ⟨q, hq⟩ : ∃ q, lnF (s.data.toList.drop a) = q := ⟨_, rfl⟩
  obtain ⟨u1, hu1⟩ : ∃ u : BA, u = ⟨q.1.toArray⟩ := ⟨_, rfl⟩
  obtain ⟨u2, hu2⟩ : ∃ u : BA, u = ⟨q.2.1.toArray⟩ := ⟨_, rfl⟩
  have HU : Hid (u1.data.toList = q.1 ∧ u2.data.toList = q.2.1) := by rw [hu1, hu2]; exact ⟨rfl, rfl⟩
  obtain ⟨B, hB⟩ : ∃ B, q.2.2 = B := ⟨_, rfl⟩
  have HZ : Hid (a ≤ s.size ∧ s.size ≤ 140737488355328) := ⟨ha, by omega⟩
  have HCU : Hid (∀ V, Below w.heap.size w V → Calls Tryd.prog 38 #[.string (s.extract a s.size), .string ⟨#[13, 10]⟩] V fun e V2 => e = .returned (.tuple #[.string u1, .string u2, .bool B]) ∧ Below V.heap.size V V2) := by
    intro V hV
    refine (cut_b (s.extract a s.size) ⟨#[13, 10]⟩ V (by rw [ByteArray.size_extract]; omega) (hm.below hV)).mono ?_
    rintro e V2 ⟨rfl, hb⟩
    refine ⟨?_, hb⟩
    have e1 : Lib.cut (s.extract a s.size).data.toList (⟨#[13, 10]⟩ : BA).data.toList = q := by rw [ext_from]; exact hq
    rw [e1, ← hu1, ← hu2, hB]
  have HK : Hid (Blk w g 44 (rdc s (a : Int) st ty bo cl)) := h
  have HQ : Hid (lnF (s.data.toList.drop a) = q ∧ q.2.2 = B) := ⟨hq, hB⟩
  clear h hm ha hq hu1 hu2 hB
  go_enter Tryd.func37, Tryd.ntmps37
  go_wp2
  refine ln1 HK.out.lt (HK.out.cell rfl) (HK.out.cell rfl) HZ HCU ?_
  intro V1 hb1
  have HV : Hid (Blk V1 g 44 (rdc s (a : Int) st ty bo cl) ∧ w.grownBy V1 (some g)) := ⟨HK.out.below hb1 HK.out.lt, hb1.1, hb1.2, hb1.3, hb1.size, fun k hk _ => hb1.block k hk⟩
  clear hb1 HCU
  cases B
  · go_wp2_with fail
    refine (giveUp_is HV.out.1).mono ?_
    rintro e X ⟨rfl, rfl⟩
    go_wp2
    go_ret2
    exact Or.inl ⟨by rw [HQ.out.1, HQ.out.2], rfl, HV.out.1, HV.out.2⟩
  · have HY : Hid (q.2.1 = (s.data.toList.drop a).drop (q.1.length + 2) ∧ q.1.length + 2 ≤ (s.data.toList.drop a).length) := by
      have e := HQ.out.1
      have k : (Lib.cut (s.data.toList.drop a) crL).2.2 = true := by show (lnF (s.data.toList.drop a)).2.2 = true; rw [e]; exact HQ.out.2
      have := cut_yes k
      rw [show Lib.cut (s.data.toList.drop a) crL = q from e] at this
      exact this
    obtain ⟨m, hm⟩ : ∃ m, u1.size = m := ⟨_, rfl⟩
    have HM : Hid (q.1.length = m ∧ a + (m + 2) ≤ s.size) := by
      have h1 : q.1.length = m := by rw [← HU.out.1]; exact hm
      have h2 := HY.out.2
      have h3 : s.data.toList.length = s.size := rfl
      have h4 := HZ.out.1
      rw [List.length_drop] at h2
      exact ⟨h1, by omega⟩
    have c1 : V1.cell? ⟨g, 1, none⟩ = some (iv (a : Int)) := HV.out.1.cell rfl
    have f1 : V1.frozen? ⟨g, 1, none⟩ = false := HV.out.1.free 1
    have q1 : (a : Int) + ((m : Int) + 2) ≤ 140737488355328 := by have := HM.out.2; have := HZ.out.2; omega
    have q2 : (m : Int) + 2 ≤ 140737488355328 := by omega
    obtain ⟨W2, hX⟩ : ∃ X, V1.setCell ⟨g, 1, none⟩ (iv ((a : Int) + ((m : Int) + 2))) = X := ⟨_, rfl⟩
    have HW : Hid (Blk W2 g 44 (rdc s ((a + (m + 2) : Nat) : Int) st ty bo cl) ∧ w.grownBy W2 (some g)) := by
      refine ⟨?_, ?_⟩
      · rw [← hX]; exact HV.out.1.set 1 _
      · rw [← hX]; exact grown_tr HV.out.2 (grown_setCell _ _ _ _)
    go_wp2
    go_ret2
    refine Or.inr ⟨by rw [HQ.out.1, HQ.out.2], u1, a + (m + 2), rfl, by rw [HQ.out.1]; exact HU.out.1, HW.out.1, HM.out.2, ?_, Nat.le_add_right _ _, HW.out.2⟩
    rw [HQ.out.1, HY.out.1, HM.out.1, List.drop_drop]
#print axioms line_is
end Go.Proofs.YtkpepfeiimphpaaDoor.Oct
