/-
  Layer 20 (review): the reference's Texts.
-/
import Derived.Test.YtaecigpjcbjcbaaWth
namespace Go.Proofs.Ytaecigpjcbjcbaa.Oct
open Go.RowKit
set_option linter.unusedSimpArgs false
set_option linter.unusedVariables false

set_option maxRecDepth 100000 in
set_option maxHeartbeats 4000000 in
theorem texts6 {Q : Exit → Act → World → Prop} {x2 x3 x4 x6 x7 x8 x9 x10 x11 x12 x13 x14 x15 x16 x17 x18 x19 x20 x21 x22 x23 x24 x25 : Value} {ds : List Deferred} {A : World} {b1 o1 b2 o2 n c1 c2 i : Nat} {x : BA}
    (HL : Hid (b1 < A.heap.size ∧ b2 < A.heap.size)) (k1 : A.cell? ⟨b1, o1 + i, none⟩ = some (.string x)) (k2 : A.cell? ⟨b2, o2 + i, none⟩ = some (.string x)) (q1 : (i : Int) < (n : Int)) (q2 : i < n)
    (hQ : ∀ V1, Below A.heap.size A V1 → Q .normal { tmps := #[.slice (some ⟨b1, o1, none⟩) n c1, .slice (some ⟨b2, o2, none⟩) n c2, x2, x3, x4, iv (i : Int), x6, x7, x8, x9, x10, x11, x12, x13, x14, x15, x16, .slice (some ⟨b1, o1, none⟩) n c1, iv (i : Int), .pointer (some ⟨b1, o1 + i, none⟩), .string x, .slice (some ⟨b2, o2, none⟩) n c2, iv (i : Int), .pointer (some ⟨b2, o2 + i, none⟩), .string x, .bool false], defers := ds } V1) :
    (Code.region 6 #[{ dst := some 17, op := Op.move (Operand.tmp 0), type := 40, pos := "ref.go:273", after := #[], guard := none }, { dst := some 18, op := Op.move (Operand.tmp 5), type := 3, pos := "ref.go:273", after := #[], guard := none }, { dst := some 19, op := Op.indexAddr 40 (Operand.tmp 17) (Operand.tmp 18), type := 0, pos := "ref.go:273", after := #[{ on := 0, ground := Ground.data }, { on := 1, ground := Ground.data }], guard := none }, { dst := some 20, op := Op.load 9 (Operand.tmp 19), type := 9, pos := "ref.go:273", after := #[{ on := 2, ground := Ground.data }], guard := none }, { dst := some 21, op := Op.move (Operand.tmp 1), type := 40, pos := "ref.go:273", after := #[], guard := none }, { dst := some 22, op := Op.move (Operand.tmp 5), type := 3, pos := "ref.go:273", after := #[], guard := none }, { dst := some 23, op := Op.indexAddr 40 (Operand.tmp 21) (Operand.tmp 22), type := 0, pos := "ref.go:273", after := #[{ on := 4, ground := Ground.data }, { on := 5, ground := Ground.data }], guard := none }, { dst := some 24, op := Op.load 9 (Operand.tmp 23), type := 9, pos := "ref.go:273", after := #[{ on := 6, ground := Ground.data }], guard := none }, { dst := some 25, op := Op.binOp BinOp.neq 9 (Operand.tmp 20) (Operand.tmp 24) 9, type := 4, pos := "ref.go:273", after := #[{ on := 3, ground := Ground.data }, { on := 7, ground := Ground.data }], guard := none }] true).wp Try.prog Q { tmps := #[.slice (some ⟨b1, o1, none⟩) n c1, .slice (some ⟨b2, o2, none⟩) n c2, x2, x3, x4, iv (i : Int), x6, x7, x8, x9, x10, x11, x12, x13, x14, x15, x16, x17, x18, x19, x20, x21, x22, x23, x24, x25], defers := ds } A := by
  refine Code.wp_mono (Q := fun x a' w' => match x with | .normal => Q .normal a' w' | _ => False) (by intro x a' w' h; cases x <;> first | exact h | exact h.elim) ?_
  refine wp_region_held (S := fun V => Below A.heap.size A V) (by kernel_rfl) ?_
  have hS0 : Hid (Below A.heap.size A A.drew) := below_drew0 A
  change wpAnyH Try.prog .any _ _ (fun V => Below A.heap.size A V) 9 (Array.replicate 9 false) _ A.drew
  obtain ⟨V0, hV0⟩ : ∃ V0, A.drew = V0 := ⟨_, rfl⟩
  rw [hV0]
  rw [hV0] at hS0
  clear hV0
  refine wpAnyH_take (i := 0) (oi := { dst := some 17, op := Op.move (Operand.tmp 0), type := 40, pos := "ref.go:273", after := #[], guard := none }) (v := .slice (some ⟨b1, o1, none⟩) n c1) rfl (by kernel_rfl) (by kernel_rfl) (by kernel_rfl) (fun _ _ _ h => h.elim) (Or.inl ⟨by rfl, ?y1⟩) hS0.out ?_
  case y1 =>
    intro V hV
    go_simp
  simp only [Act.put, List.setIfInBounds_toArray, List.set_cons_zero, List.set_cons_succ]
  refine wpAnyH_take (i := 1) (oi := { dst := some 18, op := Op.move (Operand.tmp 5), type := 3, pos := "ref.go:273", after := #[], guard := none }) (v := iv (i : Int)) rfl (by kernel_rfl) (by kernel_rfl) (by kernel_rfl) (fun _ _ _ h => h.elim) (Or.inl ⟨by rfl, ?y2⟩) hS0.out ?_
  case y2 =>
    intro V hV
    go_simp
  simp only [Act.put, List.setIfInBounds_toArray, List.set_cons_zero, List.set_cons_succ]
  refine wpAnyH_take (i := 2) (oi := { dst := some 19, op := Op.indexAddr 40 (Operand.tmp 17) (Operand.tmp 18), type := 0, pos := "ref.go:273", after := #[{ on := 0, ground := Ground.data }, { on := 1, ground := Ground.data }], guard := none }) (v := .pointer (some ⟨b1, o1 + i, none⟩)) rfl (by kernel_rfl) (by kernel_rfl) (by kernel_rfl) (fun _ _ _ h => h.elim) (Or.inl ⟨by rfl, ?y3⟩) hS0.out ?_
  case y3 =>
    intro V hV
    have hcmp := q1
    have hcmp2 := q2
    go_simp
  simp only [Act.put, List.setIfInBounds_toArray, List.set_cons_zero, List.set_cons_succ]
  refine wpAnyH_take (i := 3) (oi := { dst := some 20, op := Op.load 9 (Operand.tmp 19), type := 9, pos := "ref.go:273", after := #[{ on := 2, ground := Ground.data }], guard := none }) (v := .string x) rfl (by kernel_rfl) (by kernel_rfl) (by kernel_rfl) (fun _ _ _ h => h.elim) (Or.inl ⟨by rfl, ?y4⟩) hS0.out ?_
  case y4 =>
    intro V hV
    have hc : V.cell? ⟨b1, o1 + i, none⟩ = some (.string x) := ((show Below A.heap.size A V from hV).cell (p := ⟨b1, o1 + i, none⟩) HL.out.1).trans k1
    go_simp
  simp only [Act.put, List.setIfInBounds_toArray, List.set_cons_zero, List.set_cons_succ]
  refine wpAnyH_take (i := 4) (oi := { dst := some 21, op := Op.move (Operand.tmp 1), type := 40, pos := "ref.go:273", after := #[], guard := none }) (v := .slice (some ⟨b2, o2, none⟩) n c2) rfl (by kernel_rfl) (by kernel_rfl) (by kernel_rfl) (fun _ _ _ h => h.elim) (Or.inl ⟨by rfl, ?y5⟩) hS0.out ?_
  case y5 =>
    intro V hV
    go_simp
  simp only [Act.put, List.setIfInBounds_toArray, List.set_cons_zero, List.set_cons_succ]
  refine wpAnyH_take (i := 5) (oi := { dst := some 22, op := Op.move (Operand.tmp 5), type := 3, pos := "ref.go:273", after := #[], guard := none }) (v := iv (i : Int)) rfl (by kernel_rfl) (by kernel_rfl) (by kernel_rfl) (fun _ _ _ h => h.elim) (Or.inl ⟨by rfl, ?y6⟩) hS0.out ?_
  case y6 =>
    intro V hV
    go_simp
  simp only [Act.put, List.setIfInBounds_toArray, List.set_cons_zero, List.set_cons_succ]
  refine wpAnyH_take (i := 6) (oi := { dst := some 23, op := Op.indexAddr 40 (Operand.tmp 21) (Operand.tmp 22), type := 0, pos := "ref.go:273", after := #[{ on := 4, ground := Ground.data }, { on := 5, ground := Ground.data }], guard := none }) (v := .pointer (some ⟨b2, o2 + i, none⟩)) rfl (by kernel_rfl) (by kernel_rfl) (by kernel_rfl) (fun _ _ _ h => h.elim) (Or.inl ⟨by rfl, ?y7⟩) hS0.out ?_
  case y7 =>
    intro V hV
    have hcmp := q1
    have hcmp2 := q2
    go_simp
  simp only [Act.put, List.setIfInBounds_toArray, List.set_cons_zero, List.set_cons_succ]
  refine wpAnyH_take (i := 7) (oi := { dst := some 24, op := Op.load 9 (Operand.tmp 23), type := 9, pos := "ref.go:273", after := #[{ on := 6, ground := Ground.data }], guard := none }) (v := .string x) rfl (by kernel_rfl) (by kernel_rfl) (by kernel_rfl) (fun _ _ _ h => h.elim) (Or.inl ⟨by rfl, ?y8⟩) hS0.out ?_
  case y8 =>
    intro V hV
    have hc : V.cell? ⟨b2, o2 + i, none⟩ = some (.string x) := ((show Below A.heap.size A V from hV).cell (p := ⟨b2, o2 + i, none⟩) HL.out.2).trans k2
    go_simp
  simp only [Act.put, List.setIfInBounds_toArray, List.set_cons_zero, List.set_cons_succ]
  refine wpAnyH_take (i := 8) (oi := { dst := some 25, op := Op.binOp BinOp.neq 9 (Operand.tmp 20) (Operand.tmp 24) 9, type := 4, pos := "ref.go:273", after := #[{ on := 3, ground := Ground.data }, { on := 7, ground := Ground.data }], guard := none }) (v := .bool false) rfl (by kernel_rfl) (by kernel_rfl) (by kernel_rfl) (fun _ _ _ h => h.elim) (Or.inl ⟨by rfl, ?y9⟩) hS0.out ?_
  case y9 =>
    intro V hV
    go_simp
  simp only [Act.put, List.setIfInBounds_toArray, List.set_cons_zero, List.set_cons_succ]
  refine wpAnyH_done (by kernel_rfl) ?_ _
  exact hQ V0 hS0.out
#print axioms texts6
set_option maxRecDepth 100000 in
set_option maxHeartbeats 1000000 in
theorem texts_same (l : List BA) (s t : Sl) (w : World) (h1 : Strs w s.a s.n l) (h2 : Strs w t.a t.n l) (hn : l.length ≤ 140737488355328) :
    Calls Try.prog 22 #[.slice s.a s.n s.c, .slice t.a t.n t.c] w fun e w' => e = .returned (.bool true) ∧ Below w.heap.size w w' := by
  obtain ⟨n, hnn⟩ : ∃ n, l.length = n := ⟨_, rfl⟩
  have e1 : s.n = n := by rw [← h1.1, hnn]
  have e2 : t.n = n := by rw [← h2.1, hnn]
  rw [e1, e2]
  have HL : Hid (l.length = n ∧ Strs w s.a n l ∧ Strs w t.a n l) := ⟨hnn, by rw [← e1]; exact h1, by rw [← e2]; exact h2⟩
  have qn : (n : Int) ≤ 140737488355328 := by omega
  obtain ⟨sa, hsa⟩ : ∃ a, s.a = a := ⟨_, rfl⟩
  obtain ⟨ta, hta⟩ : ∃ a, t.a = a := ⟨_, rfl⟩
  rw [hsa, hta] at HL
  rw [hsa, hta]
  generalize s.c = sc
  generalize t.c = tc
  clear h1 h2 hn hnn e1 e2 hsa hta
  go_enter Try.func22, Try.ntmps22
  go_wp2
  go_loopw [5] (fun u wr => ∃ i : Nat, u = iv i ∧ Hid (i ≤ n ∧ Below w.heap.size w wr)) (fun u _ => n - (intOf u).toNat)
  case atStart => exact ⟨0, rfl, Nat.zero_le _, Below.refl _ _⟩
  case round =>
    obtain ⟨i, rfl, HI⟩ := hrel
    by_cases hi : i = n
    · have q1 : (n : Int) ≤ (i : Int) := by omega
      have HB := HI.out.2
      clear HI hi
      go_wp2
      go_ret
      exact ⟨rfl, HB⟩
    · have q2 : i < n := by have := HI.out.1; omega
      have q1 : (i : Int) < (n : Int) := by omega
      obtain ⟨b1, o1, ha, hb1, hc1⟩ := HL.out.2.1.2 (by omega)
      obtain ⟨b2, o2, hb, hb2, hc2⟩ := HL.out.2.2.2 (by omega)
      subst ha
      subst hb
      obtain ⟨x, hx⟩ : ∃ x, l[i]? = some x := ⟨_, List.getElem?_eq_getElem (by rw [HL.out.1]; exact q2)⟩
      have HBL : Hid (b1 < wr.heap.size ∧ b2 < wr.heap.size) := ⟨Nat.lt_of_lt_of_le hb1 HI.out.2.size, Nat.lt_of_lt_of_le hb2 HI.out.2.size⟩
      have k1 := (HI.out.2.cell (p := ⟨b1, o1 + i, none⟩) hb1).trans (hc1 i x hx)
      have k2 := (HI.out.2.cell (p := ⟨b2, o2 + i, none⟩) hb2).trans (hc2 i x hx)
      have HQ : Hid (i < n) := q2
      clear hi hc1 hc2 hx hb1 hb2
      go_wp2_with fail
      refine texts6 HBL k1 k2 q1 q2 ?_
      intro V hV
      have HV : Hid (Below w.heap.size w V) := below_tr HI.out.2 hV
      clear hV k1 k2
      go_wp2
      refine ⟨⟨i + 1, by simp, HQ.out, HV.out⟩, ?_⟩
      have := HQ.out
      simp only [intOf]
      omega
#print axioms texts_same
end Go.Proofs.Ytaecigpjcbjcbaa.Oct
