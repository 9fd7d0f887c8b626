/-
  Layer 20 (review): few, holds, without, ints.
-/
import Derived.Test.YtaecigpjcbjcbaaPsQ
import Derived.Test.YtaecigpjcbjcbaaNbL
namespace Go.Proofs.Ytaecigpjcbjcbaa.Oct
open Go.RowKit
set_option linter.unusedSimpArgs false
set_option linter.unusedVariables false

set_option maxRecDepth 100000 in
set_option maxHeartbeats 4000000 in
theorem ints6 {Q : Exit → Act → World → Prop} {x2 x3 x4 x6 x7 x8 x9 x10 x11 x12 x13 x14 x15 x16 x17 x18 x19 x20 x21 x22 x23 x24 x25 : Value} {ds : List Deferred} {A : World} {b1 o1 b2 o2 n c1 c2 i x : Nat}
    (HL : Hid (b1 < A.heap.size ∧ b2 < A.heap.size)) (k1 : A.cell? ⟨b1, o1 + i, none⟩ = some (iv (x : Int))) (k2 : A.cell? ⟨b2, o2 + i, none⟩ = some (iv (x : Int))) (q1 : (i : Int) < (n : Int)) (q2 : i < n)
    (hQ : ∀ V1, Below A.heap.size A V1 → Q .normal { tmps := #[.slice (some ⟨b1, o1, none⟩) n c1, .slice (some ⟨b2, o2, none⟩) n c2, x2, x3, x4, iv (i : Int), x6, x7, x8, x9, x10, x11, x12, x13, x14, x15, .slice (some ⟨b1, o1, none⟩) n c1, iv (i : Int), .pointer (some ⟨b1, o1 + i, none⟩), iv (x : Int), .slice (some ⟨b2, o2, none⟩) n c2, iv (i : Int), .pointer (some ⟨b2, o2 + i, none⟩), iv (x : Int), .bool false, x25], defers := ds } V1) :
    (Code.region 6 #[{ dst := some 16, op := Op.move (Operand.tmp 0), type := 38, pos := "law.go:74", after := #[], guard := none }, { dst := some 17, op := Op.move (Operand.tmp 5), type := 3, pos := "law.go:74", after := #[], guard := none }, { dst := some 18, op := Op.indexAddr 38 (Operand.tmp 16) (Operand.tmp 17), type := 0, pos := "law.go:74", after := #[{ on := 0, ground := Ground.data }, { on := 1, ground := Ground.data }], guard := none }, { dst := some 19, op := Op.load 3 (Operand.tmp 18), type := 3, pos := "law.go:74", after := #[{ on := 2, ground := Ground.data }], guard := none }, { dst := some 20, op := Op.move (Operand.tmp 1), type := 38, pos := "law.go:74", after := #[], guard := none }, { dst := some 21, op := Op.move (Operand.tmp 5), type := 3, pos := "law.go:74", after := #[], guard := none }, { dst := some 22, op := Op.indexAddr 38 (Operand.tmp 20) (Operand.tmp 21), type := 0, pos := "law.go:74", after := #[{ on := 4, ground := Ground.data }, { on := 5, ground := Ground.data }], guard := none }, { dst := some 23, op := Op.load 3 (Operand.tmp 22), type := 3, pos := "law.go:74", after := #[{ on := 6, ground := Ground.data }], guard := none }, { dst := some 24, op := Op.binOp BinOp.neq 3 (Operand.tmp 19) (Operand.tmp 23) 3, type := 4, pos := "law.go:74", after := #[{ on := 3, ground := Ground.data }, { on := 7, ground := Ground.data }], guard := none }] true).wp Try.prog Q { tmps := #[.slice (some ⟨b1, o1, none⟩) n c1, .slice (some ⟨b2, o2, none⟩) n c2, x2, x3, x4, iv (i : Int), x6, x7, x8, x9, x10, x11, x12, x13, x14, x15, x16, x17, x18, x19, x20, x21, x22, x23, x24, x25], defers := ds } A := by
  refine Code.wp_mono (Q := fun x a' w' => match x with | .normal => Q .normal a' w' | _ => False) (by intro x a' w' h; cases x <;> first | exact h | exact h.elim) ?_
  refine wp_region_held (S := fun V => Below A.heap.size A V) (by kernel_rfl) ?_
  have hS0 : Hid (Below A.heap.size A A.drew) := below_drew0 A
  change wpAnyH Try.prog .any _ _ (fun V => Below A.heap.size A V) 9 (Array.replicate 9 false) _ A.drew
  obtain ⟨V0, hV0⟩ : ∃ V0, A.drew = V0 := ⟨_, rfl⟩
  rw [hV0]
  rw [hV0] at hS0
  clear hV0
  refine wpAnyH_take (i := 0) (oi := { dst := some 16, op := Op.move (Operand.tmp 0), type := 38, pos := "law.go:74", after := #[], guard := none }) (v := .slice (some ⟨b1, o1, none⟩) n c1) rfl (by kernel_rfl) (by kernel_rfl) (by kernel_rfl) (fun _ _ _ h => h.elim) (Or.inl ⟨by rfl, ?y1⟩) hS0.out ?_
  case y1 =>
    intro V hV
    go_simp
  simp only [Act.put, List.setIfInBounds_toArray, List.set_cons_zero, List.set_cons_succ]
  refine wpAnyH_take (i := 1) (oi := { dst := some 17, op := Op.move (Operand.tmp 5), type := 3, pos := "law.go:74", after := #[], guard := none }) (v := iv (i : Int)) rfl (by kernel_rfl) (by kernel_rfl) (by kernel_rfl) (fun _ _ _ h => h.elim) (Or.inl ⟨by rfl, ?y2⟩) hS0.out ?_
  case y2 =>
    intro V hV
    go_simp
  simp only [Act.put, List.setIfInBounds_toArray, List.set_cons_zero, List.set_cons_succ]
  refine wpAnyH_take (i := 2) (oi := { dst := some 18, op := Op.indexAddr 38 (Operand.tmp 16) (Operand.tmp 17), type := 0, pos := "law.go:74", after := #[{ on := 0, ground := Ground.data }, { on := 1, ground := Ground.data }], guard := none }) (v := .pointer (some ⟨b1, o1 + i, none⟩)) rfl (by kernel_rfl) (by kernel_rfl) (by kernel_rfl) (fun _ _ _ h => h.elim) (Or.inl ⟨by rfl, ?y3⟩) hS0.out ?_
  case y3 =>
    intro V hV
    have hcmp := q1
    have hcmp2 := q2
    go_simp
  simp only [Act.put, List.setIfInBounds_toArray, List.set_cons_zero, List.set_cons_succ]
  refine wpAnyH_take (i := 3) (oi := { dst := some 19, op := Op.load 3 (Operand.tmp 18), type := 3, pos := "law.go:74", after := #[{ on := 2, ground := Ground.data }], guard := none }) (v := iv (x : Int)) rfl (by kernel_rfl) (by kernel_rfl) (by kernel_rfl) (fun _ _ _ h => h.elim) (Or.inl ⟨by rfl, ?y4⟩) hS0.out ?_
  case y4 =>
    intro V hV
    have hc : V.cell? ⟨b1, o1 + i, none⟩ = some (iv (x : Int)) := ((show Below A.heap.size A V from hV).cell (p := ⟨b1, o1 + i, none⟩) HL.out.1).trans k1
    go_simp
  simp only [Act.put, List.setIfInBounds_toArray, List.set_cons_zero, List.set_cons_succ]
  refine wpAnyH_take (i := 4) (oi := { dst := some 20, op := Op.move (Operand.tmp 1), type := 38, pos := "law.go:74", after := #[], guard := none }) (v := .slice (some ⟨b2, o2, none⟩) n c2) rfl (by kernel_rfl) (by kernel_rfl) (by kernel_rfl) (fun _ _ _ h => h.elim) (Or.inl ⟨by rfl, ?y5⟩) hS0.out ?_
  case y5 =>
    intro V hV
    go_simp
  simp only [Act.put, List.setIfInBounds_toArray, List.set_cons_zero, List.set_cons_succ]
  refine wpAnyH_take (i := 5) (oi := { dst := some 21, op := Op.move (Operand.tmp 5), type := 3, pos := "law.go:74", after := #[], guard := none }) (v := iv (i : Int)) rfl (by kernel_rfl) (by kernel_rfl) (by kernel_rfl) (fun _ _ _ h => h.elim) (Or.inl ⟨by rfl, ?y6⟩) hS0.out ?_
  case y6 =>
    intro V hV
    go_simp
  simp only [Act.put, List.setIfInBounds_toArray, List.set_cons_zero, List.set_cons_succ]
  refine wpAnyH_take (i := 6) (oi := { dst := some 22, op := Op.indexAddr 38 (Operand.tmp 20) (Operand.tmp 21), type := 0, pos := "law.go:74", after := #[{ on := 4, ground := Ground.data }, { on := 5, ground := Ground.data }], guard := none }) (v := .pointer (some ⟨b2, o2 + i, none⟩)) rfl (by kernel_rfl) (by kernel_rfl) (by kernel_rfl) (fun _ _ _ h => h.elim) (Or.inl ⟨by rfl, ?y7⟩) hS0.out ?_
  case y7 =>
    intro V hV
    have hcmp := q1
    have hcmp2 := q2
    go_simp
  simp only [Act.put, List.setIfInBounds_toArray, List.set_cons_zero, List.set_cons_succ]
  refine wpAnyH_take (i := 7) (oi := { dst := some 23, op := Op.load 3 (Operand.tmp 22), type := 3, pos := "law.go:74", after := #[{ on := 6, ground := Ground.data }], guard := none }) (v := iv (x : Int)) rfl (by kernel_rfl) (by kernel_rfl) (by kernel_rfl) (fun _ _ _ h => h.elim) (Or.inl ⟨by rfl, ?y8⟩) hS0.out ?_
  case y8 =>
    intro V hV
    have hc : V.cell? ⟨b2, o2 + i, none⟩ = some (iv (x : Int)) := ((show Below A.heap.size A V from hV).cell (p := ⟨b2, o2 + i, none⟩) HL.out.2).trans k2
    go_simp
  simp only [Act.put, List.setIfInBounds_toArray, List.set_cons_zero, List.set_cons_succ]
  refine wpAnyH_take (i := 8) (oi := { dst := some 24, op := Op.binOp BinOp.neq 3 (Operand.tmp 19) (Operand.tmp 23) 3, type := 4, pos := "law.go:74", after := #[{ on := 3, ground := Ground.data }, { on := 7, ground := Ground.data }], guard := none }) (v := .bool false) rfl (by kernel_rfl) (by kernel_rfl) (by kernel_rfl) (fun _ _ _ h => h.elim) (Or.inl ⟨by rfl, ?y9⟩) hS0.out ?_
  case y9 =>
    intro V hV
    go_simp
  simp only [Act.put, List.setIfInBounds_toArray, List.set_cons_zero, List.set_cons_succ]
  refine wpAnyH_done (by kernel_rfl) ?_ _
  exact hQ V0 hS0.out
#print axioms ints6
set_option maxRecDepth 100000 in
set_option maxHeartbeats 1000000 in
theorem ints_same (l : List Nat) (sa ta : Option Addr) (n sc tc : Nat) (w : World) (h1 : Nums w sa n l) (h2 : Nums w ta n l) (hn : n ≤ 140737488355328) :
    Calls Try.prog 13 #[.slice sa n sc, .slice ta n tc] w fun e w' => e = .returned (.bool true) ∧ Below w.heap.size w w' := by
  have HL : Hid (Nums w sa n l ∧ Nums w ta n l) := ⟨h1, h2⟩
  have qn : (n : Int) ≤ 140737488355328 := by omega
  clear h1 h2 hn
  go_enter Try.func13, Try.ntmps13
  go_wp2
  go_loopw [13] (fun u wr => ∃ i : Nat, u = iv i ∧ Hid (i ≤ n ∧ Below w.heap.size w wr)) (fun u _ => n - (intOf u).toNat)
  case atStart => exact ⟨0, rfl, Nat.zero_le _, Below.refl _ _⟩
  case round =>
    obtain ⟨i, rfl, HI⟩ := hrel
    by_cases hi : i = n
    · have q1 : (n : Int) ≤ (i : Int) := by omega
      have HB := HI.out.2
      clear HI hi
      go_wp2
      go_ret
      exact ⟨rfl, HB⟩
    · have q2 : i < n := by have := HI.out.1; omega
      have q1 : (i : Int) < (n : Int) := by omega
      obtain ⟨b1, o1, ha, hb1, hc1⟩ := HL.out.1.2 (by omega)
      obtain ⟨b2, o2, hb, hb2, hc2⟩ := HL.out.2.2 (by omega)
      subst ha
      subst hb
      obtain ⟨x, hx⟩ : ∃ x, l[i]? = some x := ⟨_, List.getElem?_eq_getElem (by rw [HL.out.1.1]; exact q2)⟩
      have HBL : Hid (b1 < wr.heap.size ∧ b2 < wr.heap.size) := ⟨Nat.lt_of_lt_of_le hb1 HI.out.2.size, Nat.lt_of_lt_of_le hb2 HI.out.2.size⟩
      have k1 := (HI.out.2.cell (p := ⟨b1, o1 + i, none⟩) hb1).trans (hc1 i x hx)
      have k2 := (HI.out.2.cell (p := ⟨b2, o2 + i, none⟩) hb2).trans (hc2 i x hx)
      have HQ : Hid (i < n) := q2
      clear hi hc1 hc2 hx hb1 hb2
      go_wp2_with fail
      refine ints6 HBL k1 k2 q1 q2 ?_
      intro V hV
      have HV : Hid (Below w.heap.size w V) := below_tr HI.out.2 hV
      clear hV k1 k2
      go_wp2
      go_roundw
      case rel => exact ⟨i + 1, by simp, HQ.out, HV.out⟩
      case measure =>
        have := HQ.out
        simp only [intOf]
        omega
#print axioms ints_same
set_option maxRecDepth 100000 in
theorem holds_is (x : Int) (l : List Nat) (a : Option Addr) (n cp : Nat) (w : World) (hl : Nums w a n l) (hn : n ≤ 140737488355328) :
    Calls Try.prog 27 #[.slice a n cp, iv x] w fun e w' => e = .returned (.bool (hasN l x)) ∧ w = w' := by
  have HL : Hid (Nums w a n l) := hl
  have qn : (n : Int) ≤ 140737488355328 := by omega
  clear hl hn
  go_enter Try.func27, Try.ntmps27
  go_wp2
  go_loopw [9] (fun u wr => ∃ i : Nat, u = iv i ∧ Hid (i ≤ n ∧ hasN (l.take i) x = false ∧ w = wr)) (fun u _ => n - (intOf u).toNat)
  case atStart => exact ⟨0, rfl, Nat.zero_le _, rfl, rfl⟩
  case round =>
    obtain ⟨i, rfl, HI⟩ := hrel
    obtain ⟨h1, h2, rfl⟩ := HI.out
    by_cases hi : i = n
    · have q1 : (n : Int) ≤ (i : Int) := by omega
      have HF : Hid (hasN l x = false) := by
        show _ = _
        rw [hi, ← HL.out.1, List.take_length] at h2
        exact h2
      clear h1 h2 hi HI
      go_wp2
      go_ret
      exact ⟨by rw [HF.out]; rfl, rfl⟩
    · have q1 : (i : Int) < (n : Int) := by omega
      have HI2 : Hid (i < n) := by show _ < _; omega
      obtain ⟨b, off, ha, _, hc⟩ := HL.out.2 (by omega)
      subst ha
      obtain ⟨y, hy⟩ : ∃ y, l[i]? = some y := ⟨_, List.getElem?_eq_getElem (by rw [HL.out.1]; omega)⟩
      have c0 := hc i y hy
      have HX : Hid (l[i]? = some y) := hy
      clear h1 hi hy hc
      cases he : ((y : Int) == x)
      · have he2 : (x == (y : Int)) = false := by simp at he ⊢; omega
        have HN : Hid (hasN (l.take (i + 1)) x = false) := by
          show _ = _
          rw [List.take_add_one, HX.out]
          unfold hasN at *
          rw [List.any_append, h2]
          simpa using he2
        clear h2 HI he2
        go_wp2
        refine ⟨⟨i + 1, by simp, HI2.out, HN.out, by first | rfl | trivial⟩, ?_⟩
        have := HI2.out
        simp only [intOf]
        omega
      · have he2 : (x == (y : Int)) = true := by simp at he ⊢; omega
        have HY : Hid (hasN l x = true) := by
          show _ = _
          unfold hasN
          rw [List.any_eq_true]
          exact ⟨y, List.mem_of_getElem? HX.out, he2⟩
        clear h2 HI he2
        go_wp2
        go_ret
        exact ⟨by rw [HY.out]; rfl, rfl⟩
#print axioms holds_is
/-- the numbers but for one -/
def outN (l : List Nat) (x : Int) : List Nat := l.filter fun k => (k : Int) != x
theorem outN_take {l : List Nat} {i y : Nat} {x : Int} (h : l[i]? = some y) : outN (l.take (i + 1)) x = outN (l.take i) x ++ (if (y : Int) != x then [y] else []) := by
  unfold outN
  rw [List.take_add_one, h, List.filter_append]
  simp only [Option.toList_some, List.filter_cons, List.filter_nil]
theorem opnC_app (l k : List Nat) : opnC (l ++ k) = opnC l ++ opnC k := by simp [opnC]
theorem info3' : ∃ i z, Try.prog.info? 3 = some i ∧ i.zero = some z ∧ i.size = 1 ∧ i.bytes ≤ 1000 ∧ z.cells.size = 1 := by
  obtain ⟨i, h1, h2, h3, z, h4, h5⟩ := sized3
  exact ⟨i, z, h1, h4, h2, by omega, h5⟩
set_option maxRecDepth 100000 in
set_option maxHeartbeats 1000000 in
theorem without_is (x : Int) (l : List Nat) (a : Option Addr) (n cp : Nat) (w : World) (hl : Nums w a n l) (hn : n ≤ 1000) :
    Calls Try.prog 29 #[.slice a n cp, iv x] w fun e w' => ∃ v', e = .returned v' ∧ w'.ownsRow w.heap.size 3 1 v' (outN l x).length (opnC (outN l x)) ∧ Below w.heap.size w w' := by
  have HL : Hid (Nums w a n l) := hl
  have qn : (n : Int) ≤ 1000 := by omega
  have HN : Hid (n ≤ 1000) := hn
  clear hl hn
  go_enter Try.func29, Try.ntmps29
  go_wp2
  go_loopw [10, 5] (fun u v wr => ∃ i : Nat, u = iv i ∧ Hid (i ≤ n ∧ Below w.heap.size w wr ∧ wr.ownsRow w.heap.size 3 1 v (outN (l.take i) x).length (opnC (outN (l.take i) x)))) (fun u _ _ => n - (intOf u).toNat)
  case atStart => exact ⟨0, rfl, Nat.zero_le _, Below.refl _ _, ⟨rfl, .inl ⟨rfl, rfl⟩⟩⟩
  case round =>
    obtain ⟨i, rfl, HI⟩ := hrel
    by_cases hi : i = n
    · have q1 : (n : Int) ≤ (i : Int) := by omega
      have HT : Hid (l.take i = l) := by show _ = _; rw [hi, ← HL.out.1, List.take_length]
      have HF : Hid (wr.ownsRow w.heap.size 3 1 u5 (outN l x).length (opnC (outN l x)) ∧ Below w.heap.size w wr) := by
        have := HI.out.2.2
        rw [HT.out] at this
        exact ⟨this, HI.out.2.1⟩
      clear HI hi
      go_wp2
      go_ret
      exact ⟨_, rfl, HF.out.1, HF.out.2⟩
    · have q2 : i < n := by have := HI.out.1; omega
      have q1 : (i : Int) < (n : Int) := by omega
      obtain ⟨b, off, ha, hbl, hc⟩ := HL.out.2 (by omega)
      subst ha
      obtain ⟨y, hy⟩ : ∃ y, l[i]? = some y := ⟨_, List.getElem?_eq_getElem (by rw [HL.out.1]; exact q2)⟩
      have c0 : wr.cell? ⟨b, off + i, none⟩ = some (iv (y : Int)) := (HI.out.2.1.cell (p := ⟨b, off + i, none⟩) hbl).trans (hc i y hy)
      have HX := outN_take (x := x) hy
      have HLN : Hid ((outN (l.take i) x).length + 1 ≤ 1000000) := by
        show _ ≤ _
        have h1 : (outN (l.take i) x).length ≤ (l.take i).length := List.length_filter_le _ _
        rw [List.length_take] at h1
        have := HN.out
        omega
      have HQ : Hid (i < n) := q2
      clear hi hc hy hbl
      cases he : ((y : Int) != x)
      · rw [he] at HX
        have HX2 : Hid (outN (l.take (i + 1)) x = outN (l.take i) x) := by show _ = _; rw [HX]; simp
        have he2 : ((y : Int) == x) = true := by simp at he ⊢; exact he
        clear HX
        go_wp2
        go_roundw
        case rel => exact ⟨i + 1, by simp, HQ.out, HI.out.2.1, by rw [HX2.out]; exact HI.out.2.2⟩
        case measure =>
          have := HQ.out
          simp only [intOf]
          omega
      · rw [he] at HX
        have HX2 : Hid (outN (l.take (i + 1)) x = outN (l.take i) x ++ [y]) := by show _ = _; rw [HX]; rfl
        have he2 : ((y : Int) == x) = false := by simp at he ⊢; exact he
        obtain ⟨i0, z0, k0, k1, k2, k3, k4⟩ := info3'
        have HI0 : Hid (Try.prog.info? 3 = some i0 ∧ i0.zero = some z0 ∧ i0.size = 1 ∧ i0.bytes ≤ 1000 ∧ z0.cells.size = 1) := ⟨k0, k1, k2, k3, k4⟩
        have hbs := run_bs38 (y : Int)
        clear HX k0 k1 k2 k3 k4
        go_wp2_with (with_reducible change wpList _ _ _ ({ dst := some 20, op := _, type := _, pos := _, after := _, guard := _ } :: _) _ _; refine Hid.out ?_)
        show wpList _ _ _ _ _ _
        refine wpList_append_own1 rfl (.tmp 17) (.tmp 19) 38 rfl _ 3 i0 z0 1 w.heap.size Try.underlying38 HI0.out.1 HI0.out.2.1 HI0.out.2.2.1 HI0.out.2.2.2.1 HI0.out.2.2.2.2 (by omega) u5 _ _ (ownsRow_below HI.out.2.2 (below_al wr _)) wr.heap.size 1 1 [iv (y : Int)] rfl rfl rfl (range_new wr [iv (y : Int)] 3) (by intro u hu; simp at hu; subst hu; rfl) (by have := HI.out.2.1.size; simp; omega) HLN.out ?_
        intro v5 w5 ho5 hg5
        have HF : Hid (Below w.heap.size w w5 ∧ w5.ownsRow w.heap.size 3 1 v5 (outN (l.take (i + 1)) x).length (opnC (outN (l.take (i + 1)) x))) := by
          have hb0 := below_tr HI.out.2.1 (below_al wr (.cells #[iv (y : Int)] 3))
          refine ⟨hb0.grown hg5.out hb0.size (fun j hj => (HI.out.2.2.lt j hj).1), ?_⟩
          rw [HX2.out, opnC_app, List.length_append]
          exact ho5.out
        clear ho5 hg5
        go_wp2
        go_roundw
        case rel => exact ⟨i + 1, by simp, HQ.out, HF.out.1, HF.out.2⟩
        case measure =>
          have := HQ.out
          simp only [intOf]
          omega
#print axioms without_is
theorem zero34_ex : ∃ Z : List Value, Z.length = 37 ∧ ∀ W, (zeroValue 34).run Try.prog W = .ok (.agg Z.toArray) W := by
  refine ⟨ActV.cells ⟨0, 0, ⟨#[]⟩, ⟨#[]⟩, List.replicate 32 0, false⟩, ActV.length (by simp), fun W => ?_⟩
  kernel_rfl
theorem size34 : (Try.prog.info? 34).map (·.size) = some 37 := by kernel_rfl
theorem ActV.one (x : ActV) : ∀ v ∈ x.cells, v.oneCell' = true := by
  intro v hv
  simp only [ActV.cells, List.mem_cons, List.mem_append, List.not_mem_nil, or_false] at hv
  rcases hv with rfl | rfl | rfl | rfl | hv | rfl
  · rfl
  · rfl
  · rfl
  · rfl
  · exact U_one _ v hv
  · rfl
set_option maxRecDepth 100000 in
set_option maxHeartbeats 2000000 in
theorem few_is (l : List ActV) (a : Option Addr) (n cp : Nat) (w : World) (hl : ArgA w a n cp l) :
    Calls Try.prog 9 #[.slice a n cp] w fun e w' => ∃ r : Bool, e = .returned (.bool r) ∧ (r = true → n ≤ 150) ∧ Below w.heap.size w w' := by
  have HL : Hid (ArgA w a n cp l) := hl
  have qn : (n : Int) ≤ 140737488355328 := by have := hl.2.1; omega
  obtain ⟨Z, hZ, hz⟩ := zero34_ex
  have HZ : Hid (Z.length = 37) := hZ
  clear hl hZ
  go_enter Try.func9, Try.ntmps9
  go_wp2
  go_loopw [8, 3] (fun u v wr => ∃ i k : Nat, u = iv i ∧ v = iv k ∧ Hid (i ≤ n ∧ i ≤ k ∧ k ≤ 150 ∧ Below w.heap.size w wr)) (fun u _ _ => n - (intOf u).toNat)
  case atStart => exact ⟨0, 0, rfl, rfl, Nat.zero_le _, Nat.le_refl _, by omega, Below.refl _ _⟩
  case round =>
    obtain ⟨i, k, rfl, rfl, HI⟩ := hrel
    by_cases hi : i = n
    · have q1 : (n : Int) ≤ (i : Int) := by omega
      have HF : Hid (n ≤ 150 ∧ Below w.heap.size w wr) := ⟨by have := HI.out.2.1; have := HI.out.2.2.1; omega, HI.out.2.2.2⟩
      clear HI hi
      go_wp2
      go_ret
      exact ⟨true, rfl, fun _ => HF.out.1, HF.out.2⟩
    · have q2 : i < n := by have := HI.out.1; omega
      have q1 : (i : Int) < (n : Int) := by omega
      obtain ⟨b, off, ha, hbl, hc⟩ := HL.out.2.2.2 (by omega)
      subst ha
      obtain ⟨x, hx⟩ : ∃ x, l[i]? = some x := ⟨_, List.getElem?_eq_getElem (by rw [HL.out.1]; exact q2)⟩
      have hok := HL.out.2.2.1 x (List.mem_of_getElem? hx)
      have hr : wr.rangeAt b (off + i * 37) x.cells := rangeAt_same (hc i x hx) (HI.out.2.2.2.block b hbl)
      obtain ⟨cx, hcx⟩ : ∃ cx, x.cells = cx := ⟨_, rfl⟩
      have HCX : Hid (wr.rangeAt b (off + i * 37) cx ∧ cx.length = 37 ∧ (∀ v ∈ cx, v.oneCell' = true) ∧ x.cells = cx) := by rw [← hcx]; exact ⟨hr, ActV.length hok.2.2.2.2, ActV.one x, rfl⟩
      have HOK : Hid x.ok := hok
      have HQ : Hid (i < n) := q2
      clear hi hc hx hbl hr hok hcx
      go_wp2_with (with_reducible change wpList _ _ _ ({ dst := some 11, op := _, type := _, pos := _, after := _, guard := _ } :: _) _ _; refine Hid.out ?_)
      show wpList _ _ _ _ _ _
      refine wpList_load_want rfl 34 (.tmp 10) rfl b (off + i * 37) rfl cx _ HCX.out.1 Try.underlying34 rfl (by rw [HCX.out.2.1]; exact size34) ?_
      simp only [Act.put, List.setIfInBounds_toArray, List.set_cons_zero, List.set_cons_succ]
      go_wp2_with (with_reducible change wpList _ _ _ ({ dst := none, op := Op.store _ _ _, type := _, pos := _, after := _, guard := _ } :: _) _ _; refine Hid.out ?_)
      show wpList _ _ _ _ _ _
      refine wpList_store_blk rfl 34 (.tmp 5) (.tmp 11) rfl wr.heap.size 0 34 Z cx rfl rfl (by simpa using Blk.new wr Z.toArray 34) (by rw [HZ.out, HCX.out.2.1]; omega) (by rw [HCX.out.2.1]; exact size34) HCX.out.2.2.1 ?_
      intro V hb5 hg5
      obtain ⟨g, hg⟩ : ∃ g, wr.heap.size = g := ⟨_, rfl⟩
      rw [hg] at hb5 hg5 ⊢
      have HV : Hid (Below w.heap.size w V) := by
        have h0 : Below wr.heap.size wr V := (below_al wr _).grown hg5.out (below_al wr _).size (fun j hj => by cases hj; exact Nat.le_of_eq hg)
        exact below_tr HI.out.2.2.2 h0
      have hbk : Blk V g 34 cx := by
        have := hb5.out
        rw [List.take_zero, List.nil_append, List.drop_of_length_le (by rw [HZ.out, HCX.out.2.1]; omega), List.append_nil] at this
        exact this
      rw [← HCX.out.2.2.2] at hbk
      obtain ⟨_, _, c2, c3, _, _⟩ := ActV.cell (o := 0) HOK.out.2.2.2.2 hbk.range0
      rw [Nat.zero_add] at c2 c3
      obtain ⟨us, hus⟩ : ∃ n, x.user.size = n := ⟨_, rfl⟩
      obtain ⟨ts, hts⟩ : ∃ n, x.text.size = n := ⟨_, rfl⟩
      have qu : (us : Int) ≤ 140737488355328 := by have := HOK.out.2.2.1; omega
      have qt : (ts : Int) ≤ 140737488355328 := by have := HOK.out.2.2.2.1; omega
      obtain ⟨d, hd⟩ : ∃ d : Nat, (((us : Int) + (ts : Int)).tdiv 300) = (d : Int) := ⟨(us + ts) / 300, by rw [Int.tdiv_eq_ediv_of_nonneg (by omega)]; omega⟩
      have qd : (d : Int) ≤ 281474976710656 := by
        have : ((us : Int) + (ts : Int)).tdiv 300 ≤ (us : Int) + (ts : Int) := Int.tdiv_le_self _ (by omega)
        omega
      have qk : (k : Int) ≤ 150 := by have := HI.out.2.2.1; omega
      clear hb5 hg5 hg hbk
      by_cases hbig : 150 < (k : Int) + (1 + (d : Int))
      · go_wp2
        go_ret
        exact ⟨false, rfl, (fun h => absurd h (by decide)), HV.out⟩
      · have hsm : (k : Int) + (1 + (d : Int)) ≤ 150 := by omega
        have HM : Hid (k + (1 + d) ≤ 150) := by show _ ≤ _; omega
        clear hbig
        go_wp2
        go_roundw
        case rel => exact ⟨i + 1, k + (1 + d), by simp, by simp, HQ.out, by have := HI.out.2.1; omega, HM.out, HV.out⟩
        case measure =>
          have := HQ.out
          simp only [intOf]
          omega
#print axioms few_is
end Go.Proofs.Ytaecigpjcbjcbaa.Oct
