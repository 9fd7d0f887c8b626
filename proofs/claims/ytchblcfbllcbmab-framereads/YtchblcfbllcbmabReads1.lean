/-
  Layer 4 (frame): 'Unframe', and the reference's 'number'.
-/
import Derived.Test.YtchblcfbllcbmabOpenIs
import Derived.Test.YtchblcfbllcbmabClone
import Derived.Deep.RegionHeldLaw
namespace Go.Proofs.Ytchblcfbllcbmab.Oct
open Go.RowKit

theorem unframe_none (l : List UInt8) (a : Option Addr) (n cp : Nat) (w : World) (hl : In w a n cp l) (h : errOf l ≠ 0) :
    Calls Try.prog 7 #[.slice a n cp] w fun e w' => e = .returned (.tuple #[.slice none 0 0, .int .i64 0, .int .i64 (errOf l : Int)]) ∧ ∃ k, w' = w.drewN k := by
  have H : Hid (Calls Try.prog 13 #[.slice a n cp] w fun e w' => e = .returned (.tuple #[.slice none 0 0, .int .i64 0, .int .i64 (errOf l : Int)]) ∧ ∃ k, w' = w.drewN k) := open_none l a n cp w hl h
  obtain ⟨E, hE⟩ : ∃ E, E = errOf l := ⟨_, rfl⟩
  rw [← hE] at H ⊢
  clear h hl hE
  go_enter Try.func7, Try.ntmps7
  go_wp2_with fail
  refine H.out.mono ?_
  rintro e w1 ⟨rfl, k, rfl⟩
  go_wp2_with fail
  refine (clone_nil _).mono ?_
  rintro e w2 ⟨rfl, rfl⟩
  go_wp2
  go_ret3
  exact ⟨rfl, k, rfl⟩

theorem in_drewN {w : World} {k : Nat} {a : Option Addr} {n c : Nat} {l : List UInt8} (h : In w a n c l) : In (w.drewN k) a n c l := h

theorem unframe_ok (l : List UInt8) (b off n cp m : Nat) (w : World) (hl : In w (some ⟨b, off, none⟩) n cp l) (h : errOf l = 0) (hm : num4 l = m) :
    Calls Try.prog 7 #[.slice (some ⟨b, off, none⟩) n cp] w fun e w' => ∃ a' c, e = .returned (.tuple #[.slice a' m c, .int .i64 ((m : Int) + 12), .int .i64 0]) ∧ Hid (In w' a' m c (bodyOf l)) ∧ Hid (Below w.heap.size w w') := by
  have H : Hid (Calls Try.prog 13 #[.slice (some ⟨b, off, none⟩) n cp] w fun e w' => e = .returned (.tuple #[.slice (some ⟨b, off + 8, none⟩) m (cp - 8), .int .i64 ((m : Int) + 12), .int .i64 0]) ∧ ∃ k, w' = w.drewN k) := open_ok l b off n cp m w hl h hm
  obtain ⟨h1, h2, h3, h4, h5⟩ := good_of h
  have hn := hl.1
  have hcp := hl.2.1
  have HI : Hid (In w (some ⟨b, off + 8, none⟩) m (cp - 8) (bodyOf l)) := by
    have e := hl.piece 8 (m + 8) (by omega) (by omega)
    rw [Nat.add_sub_cancel] at e
    subst hm
    exact e
  have HM : Hid (m ≤ 1000000) := by show _ ≤ _; omega
  clear h hl h1 h2 h3 h4 h5 hn hcp hm
  go_enter Try.func7, Try.ntmps7
  go_wp2_with fail
  refine H.out.mono ?_
  rintro e w1 ⟨rfl, k, rfl⟩
  go_wp2_with fail
  refine (clone_is (bodyOf l) (some ⟨b, off + 8, none⟩) m (cp - 8) (w.drewN k) (in_drewN HI.out) HM.out).mono ?_
  rintro e w2 ⟨a2, c2, rfl, hi2, hb2, -⟩
  go_wp2
  go_ret3
  exact ⟨_, _, rfl, hi2, ⟨hb2.out.os, hb2.out.tape, hb2.out.output, hb2.out.size, hb2.out.block⟩⟩

theorem num4_cons (x0 x1 x2 x3 : UInt8) (r : List UInt8) : num4 (x0 :: x1 :: x2 :: x3 :: r) = x0.toNat * 16777216 + x1.toNat * 65536 + x2.toNat * 256 + x3.toNat := by
  simp only [num4, List.getD_cons_zero, List.getD_cons_succ]
  omega
set_option maxHeartbeats 400000 in
set_option maxRecDepth 100000 in
theorem refnum_is (l : List UInt8) (b off n cp : Nat) (w : World) (hl : In w (some ⟨b, off, none⟩) n cp l) (hn : 4 ≤ n) :
    Calls Try.prog 15 #[.slice (some ⟨b, off, none⟩) n cp] w fun e w' => e = .returned (.int .u32 (num4 l : Int)) ∧ ∃ k, w' = w.drewN k := by
  have hll := hl.1
  obtain ⟨b', off', e0, -, hc⟩ := hl.2.2.2.2 (by omega)
  cases e0
  obtain ⟨x0, x1, x2, x3, r, rfl⟩ : ∃ x0 x1 x2 x3 r, l = x0 :: x1 :: x2 :: x3 :: r := by
    match l, (show 4 ≤ l.length by omega) with
    | x0 :: x1 :: x2 :: x3 :: r, _ => exact ⟨x0, x1, x2, x3, r, rfl⟩
  have c0 : w.cell? ⟨b, off, none⟩ = some (.int .u8 (x0.toNat : Int)) := hc 0 x0 rfl
  have c1 : w.cell? ⟨b, off + 1, none⟩ = some (.int .u8 (x1.toNat : Int)) := hc 1 x1 rfl
  have c2 : w.cell? ⟨b, off + 2, none⟩ = some (.int .u8 (x2.toNat : Int)) := hc 2 x2 rfl
  have c3 : w.cell? ⟨b, off + 3, none⟩ = some (.int .u8 (x3.toNat : Int)) := hc 3 x3 rfl
  obtain ⟨y0, h0⟩ : ∃ y, y = x0.toNat := ⟨_, rfl⟩
  obtain ⟨y1, h1⟩ : ∃ y, y = x1.toNat := ⟨_, rfl⟩
  obtain ⟨y2, h2⟩ : ∃ y, y = x2.toNat := ⟨_, rfl⟩
  obtain ⟨y3, h3⟩ : ∃ y, y = x3.toNat := ⟨_, rfl⟩
  rw [← h0] at c0
  rw [← h1] at c1
  rw [← h2] at c2
  rw [← h3] at c3
  have q0 : (y0 : Int) < 256 := by have := x0.toNat_lt; omega
  have q1 : (y1 : Int) < 256 := by have := x1.toNat_lt; omega
  have q2 : (y2 : Int) < 256 := by have := x2.toNat_lt; omega
  have q3 : (y3 : Int) < 256 := by have := x3.toNat_lt; omega
  have q4 : (4 : Int) ≤ (n : Int) := by omega
  have HQ : Hid (num4 (x0 :: x1 :: x2 :: x3 :: r) = y0 * 16777216 + y1 * 65536 + y2 * 256 + y3) := by
    show _ = _
    rw [h0, h1, h2, h3]
    exact num4_cons x0 x1 x2 x3 r
  obtain ⟨N, hN⟩ : ∃ N, N = num4 (x0 :: x1 :: x2 :: x3 :: r) := ⟨_, rfl⟩
  rw [← hN] at HQ ⊢
  clear hc hl hll hN h0 h1 h2 h3
  go_enter Try.func15, Try.ntmps15
  go_wp2_with fail
  refine Code.wp_mono (Q := fun x a' w' => match x with | .normal => _ | _ => False) (by intro x a' w' h; cases x <;> first | exact h | exact h.elim) ?_
  obtain ⟨S, hSd⟩ : ∃ S : World → Prop, S = fun W => W.cell? ⟨b, off, none⟩ = some (.int .u8 (y0 : Int)) ∧ W.cell? ⟨b, off + 1, none⟩ = some (.int .u8 (y1 : Int)) ∧ W.cell? ⟨b, off + 2, none⟩ = some (.int .u8 (y2 : Int)) ∧ W.cell? ⟨b, off + 3, none⟩ = some (.int .u8 (y3 : Int)) := ⟨_, rfl⟩
  refine wp_region_held (S := S) (by kernel_rfl) ?_
  have hS : S w.drew := by rw [hSd]; exact ⟨c0, c1, c2, c3⟩
  change wpAnyH Try.prog .any _ _ S 23 (Array.replicate 23 false) _ w.drew
  refine wpAnyH_take (i := 0) (oi := { dst := some 3, op := Op.move (Operand.tmp 0), type := 22, pos := "ref.go:33", after := #[], guard := none }) (v := .slice (some ⟨b, off, none⟩) n cp) rfl (by kernel_rfl) (by kernel_rfl) (by kernel_rfl) (fun _ _ _ h => h.elim) (Or.inl ⟨by rfl, ?y0⟩) hS ?_
  case y0 =>
    intro W hW
    rw [hSd] at hW; obtain ⟨s1, s2, s3, s4⟩ := hW
    go_simp
  simp only [Act.put, List.setIfInBounds_toArray, List.set_cons_zero, List.set_cons_succ]
  refine wpAnyH_take (i := 1) (oi := { dst := some 4, op := Op.indexAddr 22 (Operand.tmp 3) (Operand.const (Value.int IntKind.i64 0)), type := 0, pos := "ref.go:33", after := #[{ on := 0, ground := Ground.data }], guard := none }) (v := .pointer (some ⟨b, off, none⟩)) rfl (by kernel_rfl) (by kernel_rfl) (by kernel_rfl) (fun _ _ _ h => h.elim) (Or.inl ⟨by rfl, ?y1⟩) hS ?_
  case y1 =>
    intro W hW
    rw [hSd] at hW; obtain ⟨s1, s2, s3, s4⟩ := hW
    go_simp
    intro hx
    exfalso
    omega
  simp only [Act.put, List.setIfInBounds_toArray, List.set_cons_zero, List.set_cons_succ]
  refine wpAnyH_take (i := 2) (oi := { dst := some 5, op := Op.load 5 (Operand.tmp 4), type := 5, pos := "ref.go:33", after := #[{ on := 1, ground := Ground.data }], guard := none }) (v := .int .u8 (y0 : Int)) rfl (by kernel_rfl) (by kernel_rfl) (by kernel_rfl) (fun _ _ _ h => h.elim) (Or.inl ⟨by rfl, ?y2⟩) hS ?_
  case y2 =>
    intro W hW
    rw [hSd] at hW; obtain ⟨s1, s2, s3, s4⟩ := hW
    go_simp
  simp only [Act.put, List.setIfInBounds_toArray, List.set_cons_zero, List.set_cons_succ]
  refine wpAnyH_take (i := 3) (oi := { dst := some 6, op := Op.convert 5 41 (Operand.tmp 5), type := 41, pos := "ref.go:33", after := #[{ on := 2, ground := Ground.data }], guard := none }) (v := .int .u32 ((y0 : Int))) rfl (by kernel_rfl) (by kernel_rfl) (by kernel_rfl) (fun _ _ _ h => h.elim) (Or.inl ⟨by rfl, ?y3⟩) hS ?_
  case y3 =>
    intro W hW
    rw [hSd] at hW; obtain ⟨s1, s2, s3, s4⟩ := hW
    have hq := HQ.out
    go_simp
    rw [IntKind.wrap_u32]
    omega
  simp only [Act.put, List.setIfInBounds_toArray, List.set_cons_zero, List.set_cons_succ]
  refine wpAnyH_take (i := 4) (oi := { dst := some 7, op := Op.binOp BinOp.shl 41 (Operand.tmp 6) (Operand.const (Value.int IntKind.u64 24)) 38, type := 41, pos := "ref.go:33", after := #[{ on := 3, ground := Ground.data }], guard := none }) (v := .int .u32 ((y0 : Int) * 16777216)) rfl (by kernel_rfl) (by kernel_rfl) (by kernel_rfl) (fun _ _ _ h => h.elim) (Or.inl ⟨by rfl, ?y4⟩) hS ?_
  case y4 =>
    intro W hW
    rw [hSd] at hW; obtain ⟨s1, s2, s3, s4⟩ := hW
    have hq := HQ.out
    go_simp
    rw [IntKind.wrap_u32]
    omega
  simp only [Act.put, List.setIfInBounds_toArray, List.set_cons_zero, List.set_cons_succ]
  refine wpAnyH_take (i := 5) (oi := { dst := some 8, op := Op.move (Operand.tmp 0), type := 22, pos := "ref.go:33", after := #[], guard := none }) (v := .slice (some ⟨b, off, none⟩) n cp) rfl (by kernel_rfl) (by kernel_rfl) (by kernel_rfl) (fun _ _ _ h => h.elim) (Or.inl ⟨by rfl, ?y5⟩) hS ?_
  case y5 =>
    intro W hW
    rw [hSd] at hW; obtain ⟨s1, s2, s3, s4⟩ := hW
    go_simp
  simp only [Act.put, List.setIfInBounds_toArray, List.set_cons_zero, List.set_cons_succ]
  refine wpAnyH_take (i := 6) (oi := { dst := some 9, op := Op.indexAddr 22 (Operand.tmp 8) (Operand.const (Value.int IntKind.i64 1)), type := 0, pos := "ref.go:33", after := #[{ on := 5, ground := Ground.data }], guard := none }) (v := .pointer (some ⟨b, off + 1, none⟩)) rfl (by kernel_rfl) (by kernel_rfl) (by kernel_rfl) (fun _ _ _ h => h.elim) (Or.inl ⟨by rfl, ?y6⟩) hS ?_
  case y6 =>
    intro W hW
    rw [hSd] at hW; obtain ⟨s1, s2, s3, s4⟩ := hW
    go_simp
    intro hx
    exfalso
    omega
  simp only [Act.put, List.setIfInBounds_toArray, List.set_cons_zero, List.set_cons_succ]
  refine wpAnyH_take (i := 7) (oi := { dst := some 10, op := Op.load 5 (Operand.tmp 9), type := 5, pos := "ref.go:33", after := #[{ on := 6, ground := Ground.data }], guard := none }) (v := .int .u8 (y1 : Int)) rfl (by kernel_rfl) (by kernel_rfl) (by kernel_rfl) (fun _ _ _ h => h.elim) (Or.inl ⟨by rfl, ?y7⟩) hS ?_
  case y7 =>
    intro W hW
    rw [hSd] at hW; obtain ⟨s1, s2, s3, s4⟩ := hW
    go_simp
  simp only [Act.put, List.setIfInBounds_toArray, List.set_cons_zero, List.set_cons_succ]
  refine wpAnyH_take (i := 8) (oi := { dst := some 11, op := Op.convert 5 41 (Operand.tmp 10), type := 41, pos := "ref.go:33", after := #[{ on := 7, ground := Ground.data }], guard := none }) (v := .int .u32 ((y1 : Int))) rfl (by kernel_rfl) (by kernel_rfl) (by kernel_rfl) (fun _ _ _ h => h.elim) (Or.inl ⟨by rfl, ?y8⟩) hS ?_
  case y8 =>
    intro W hW
    rw [hSd] at hW; obtain ⟨s1, s2, s3, s4⟩ := hW
    have hq := HQ.out
    go_simp
    rw [IntKind.wrap_u32]
    omega
  simp only [Act.put, List.setIfInBounds_toArray, List.set_cons_zero, List.set_cons_succ]
  refine wpAnyH_take (i := 9) (oi := { dst := some 12, op := Op.binOp BinOp.shl 41 (Operand.tmp 11) (Operand.const (Value.int IntKind.u64 16)) 38, type := 41, pos := "ref.go:33", after := #[{ on := 8, ground := Ground.data }], guard := none }) (v := .int .u32 ((y1 : Int) * 65536)) rfl (by kernel_rfl) (by kernel_rfl) (by kernel_rfl) (fun _ _ _ h => h.elim) (Or.inl ⟨by rfl, ?y9⟩) hS ?_
  case y9 =>
    intro W hW
    rw [hSd] at hW; obtain ⟨s1, s2, s3, s4⟩ := hW
    have hq := HQ.out
    go_simp
    rw [IntKind.wrap_u32]
    omega
  simp only [Act.put, List.setIfInBounds_toArray, List.set_cons_zero, List.set_cons_succ]
  refine wpAnyH_take (i := 10) (oi := { dst := some 13, op := Op.binOp BinOp.add 41 (Operand.tmp 7) (Operand.tmp 12) 41, type := 41, pos := "ref.go:33", after := #[{ on := 4, ground := Ground.data }, { on := 9, ground := Ground.data }], guard := none }) (v := .int .u32 ((y0 : Int) * 16777216 + (y1 : Int) * 65536)) rfl (by kernel_rfl) (by kernel_rfl) (by kernel_rfl) (fun _ _ _ h => h.elim) (Or.inl ⟨by rfl, ?y10⟩) hS ?_
  case y10 =>
    intro W hW
    rw [hSd] at hW; obtain ⟨s1, s2, s3, s4⟩ := hW
    have hq := HQ.out
    go_simp
    rw [IntKind.wrap_u32]
    omega
  simp only [Act.put, List.setIfInBounds_toArray, List.set_cons_zero, List.set_cons_succ]
  refine wpAnyH_take (i := 11) (oi := { dst := some 14, op := Op.move (Operand.tmp 0), type := 22, pos := "ref.go:33", after := #[], guard := none }) (v := .slice (some ⟨b, off, none⟩) n cp) rfl (by kernel_rfl) (by kernel_rfl) (by kernel_rfl) (fun _ _ _ h => h.elim) (Or.inl ⟨by rfl, ?y11⟩) hS ?_
  case y11 =>
    intro W hW
    rw [hSd] at hW; obtain ⟨s1, s2, s3, s4⟩ := hW
    go_simp
  simp only [Act.put, List.setIfInBounds_toArray, List.set_cons_zero, List.set_cons_succ]
  refine wpAnyH_take (i := 12) (oi := { dst := some 15, op := Op.indexAddr 22 (Operand.tmp 14) (Operand.const (Value.int IntKind.i64 2)), type := 0, pos := "ref.go:33", after := #[{ on := 11, ground := Ground.data }], guard := none }) (v := .pointer (some ⟨b, off + 2, none⟩)) rfl (by kernel_rfl) (by kernel_rfl) (by kernel_rfl) (fun _ _ _ h => h.elim) (Or.inl ⟨by rfl, ?y12⟩) hS ?_
  case y12 =>
    intro W hW
    rw [hSd] at hW; obtain ⟨s1, s2, s3, s4⟩ := hW
    go_simp
    intro hx
    exfalso
    omega
  simp only [Act.put, List.setIfInBounds_toArray, List.set_cons_zero, List.set_cons_succ]
  refine wpAnyH_take (i := 13) (oi := { dst := some 16, op := Op.load 5 (Operand.tmp 15), type := 5, pos := "ref.go:33", after := #[{ on := 12, ground := Ground.data }], guard := none }) (v := .int .u8 (y2 : Int)) rfl (by kernel_rfl) (by kernel_rfl) (by kernel_rfl) (fun _ _ _ h => h.elim) (Or.inl ⟨by rfl, ?y13⟩) hS ?_
  case y13 =>
    intro W hW
    rw [hSd] at hW; obtain ⟨s1, s2, s3, s4⟩ := hW
    go_simp
  simp only [Act.put, List.setIfInBounds_toArray, List.set_cons_zero, List.set_cons_succ]
  refine wpAnyH_take (i := 14) (oi := { dst := some 17, op := Op.convert 5 41 (Operand.tmp 16), type := 41, pos := "ref.go:33", after := #[{ on := 13, ground := Ground.data }], guard := none }) (v := .int .u32 ((y2 : Int))) rfl (by kernel_rfl) (by kernel_rfl) (by kernel_rfl) (fun _ _ _ h => h.elim) (Or.inl ⟨by rfl, ?y14⟩) hS ?_
  case y14 =>
    intro W hW
    rw [hSd] at hW; obtain ⟨s1, s2, s3, s4⟩ := hW
    have hq := HQ.out
    go_simp
    rw [IntKind.wrap_u32]
    omega
  simp only [Act.put, List.setIfInBounds_toArray, List.set_cons_zero, List.set_cons_succ]
  refine wpAnyH_take (i := 15) (oi := { dst := some 18, op := Op.binOp BinOp.shl 41 (Operand.tmp 17) (Operand.const (Value.int IntKind.u64 8)) 38, type := 41, pos := "ref.go:33", after := #[{ on := 14, ground := Ground.data }], guard := none }) (v := .int .u32 ((y2 : Int) * 256)) rfl (by kernel_rfl) (by kernel_rfl) (by kernel_rfl) (fun _ _ _ h => h.elim) (Or.inl ⟨by rfl, ?y15⟩) hS ?_
  case y15 =>
    intro W hW
    rw [hSd] at hW; obtain ⟨s1, s2, s3, s4⟩ := hW
    have hq := HQ.out
    go_simp
    rw [IntKind.wrap_u32]
    omega
  simp only [Act.put, List.setIfInBounds_toArray, List.set_cons_zero, List.set_cons_succ]
  refine wpAnyH_take (i := 16) (oi := { dst := some 19, op := Op.binOp BinOp.add 41 (Operand.tmp 13) (Operand.tmp 18) 41, type := 41, pos := "ref.go:33", after := #[{ on := 10, ground := Ground.data }, { on := 15, ground := Ground.data }], guard := none }) (v := .int .u32 ((y0 : Int) * 16777216 + (y1 : Int) * 65536 + (y2 : Int) * 256)) rfl (by kernel_rfl) (by kernel_rfl) (by kernel_rfl) (fun _ _ _ h => h.elim) (Or.inl ⟨by rfl, ?y16⟩) hS ?_
  case y16 =>
    intro W hW
    rw [hSd] at hW; obtain ⟨s1, s2, s3, s4⟩ := hW
    have hq := HQ.out
    go_simp
    rw [IntKind.wrap_u32]
    omega
  simp only [Act.put, List.setIfInBounds_toArray, List.set_cons_zero, List.set_cons_succ]
  refine wpAnyH_take (i := 17) (oi := { dst := some 20, op := Op.move (Operand.tmp 0), type := 22, pos := "ref.go:33", after := #[], guard := none }) (v := .slice (some ⟨b, off, none⟩) n cp) rfl (by kernel_rfl) (by kernel_rfl) (by kernel_rfl) (fun _ _ _ h => h.elim) (Or.inl ⟨by rfl, ?y17⟩) hS ?_
  case y17 =>
    intro W hW
    rw [hSd] at hW; obtain ⟨s1, s2, s3, s4⟩ := hW
    go_simp
  simp only [Act.put, List.setIfInBounds_toArray, List.set_cons_zero, List.set_cons_succ]
  refine wpAnyH_take (i := 18) (oi := { dst := some 21, op := Op.indexAddr 22 (Operand.tmp 20) (Operand.const (Value.int IntKind.i64 3)), type := 0, pos := "ref.go:33", after := #[{ on := 17, ground := Ground.data }], guard := none }) (v := .pointer (some ⟨b, off + 3, none⟩)) rfl (by kernel_rfl) (by kernel_rfl) (by kernel_rfl) (fun _ _ _ h => h.elim) (Or.inl ⟨by rfl, ?y18⟩) hS ?_
  case y18 =>
    intro W hW
    rw [hSd] at hW; obtain ⟨s1, s2, s3, s4⟩ := hW
    go_simp
    intro hx
    exfalso
    omega
  simp only [Act.put, List.setIfInBounds_toArray, List.set_cons_zero, List.set_cons_succ]
  refine wpAnyH_take (i := 19) (oi := { dst := some 22, op := Op.load 5 (Operand.tmp 21), type := 5, pos := "ref.go:33", after := #[{ on := 18, ground := Ground.data }], guard := none }) (v := .int .u8 (y3 : Int)) rfl (by kernel_rfl) (by kernel_rfl) (by kernel_rfl) (fun _ _ _ h => h.elim) (Or.inl ⟨by rfl, ?y19⟩) hS ?_
  case y19 =>
    intro W hW
    rw [hSd] at hW; obtain ⟨s1, s2, s3, s4⟩ := hW
    go_simp
  simp only [Act.put, List.setIfInBounds_toArray, List.set_cons_zero, List.set_cons_succ]
  refine wpAnyH_take (i := 20) (oi := { dst := some 23, op := Op.convert 5 41 (Operand.tmp 22), type := 41, pos := "ref.go:33", after := #[{ on := 19, ground := Ground.data }], guard := none }) (v := .int .u32 ((y3 : Int))) rfl (by kernel_rfl) (by kernel_rfl) (by kernel_rfl) (fun _ _ _ h => h.elim) (Or.inl ⟨by rfl, ?y20⟩) hS ?_
  case y20 =>
    intro W hW
    rw [hSd] at hW; obtain ⟨s1, s2, s3, s4⟩ := hW
    have hq := HQ.out
    go_simp
    rw [IntKind.wrap_u32]
    omega
  simp only [Act.put, List.setIfInBounds_toArray, List.set_cons_zero, List.set_cons_succ]
  refine wpAnyH_take (i := 21) (oi := { dst := some 24, op := Op.binOp BinOp.add 41 (Operand.tmp 19) (Operand.tmp 23) 41, type := 41, pos := "ref.go:33", after := #[{ on := 16, ground := Ground.data }, { on := 20, ground := Ground.data }], guard := none }) (v := .int .u32 ((N : Int))) rfl (by kernel_rfl) (by kernel_rfl) (by kernel_rfl) (fun _ _ _ h => h.elim) (Or.inl ⟨by rfl, ?y21⟩) hS ?_
  case y21 =>
    intro W hW
    rw [hSd] at hW; obtain ⟨s1, s2, s3, s4⟩ := hW
    have hq := HQ.out
    go_simp
    rw [IntKind.wrap_u32]
    omega
  simp only [Act.put, List.setIfInBounds_toArray, List.set_cons_zero, List.set_cons_succ]
  refine wpAnyH_take (i := 22) (oi := { dst := some 2, op := Op.assign (Operand.tmp 24), type := 41, pos := "ref.go:33", after := #[{ on := 21, ground := Ground.data }, { on := 0, ground := Ground.phase }, { on := 1, ground := Ground.phase }, { on := 2, ground := Ground.phase }, { on := 3, ground := Ground.phase }, { on := 4, ground := Ground.phase }, { on := 5, ground := Ground.phase }, { on := 6, ground := Ground.phase }, { on := 7, ground := Ground.phase }, { on := 8, ground := Ground.phase }, { on := 9, ground := Ground.phase }, { on := 10, ground := Ground.phase }, { on := 11, ground := Ground.phase }, { on := 12, ground := Ground.phase }, { on := 13, ground := Ground.phase }, { on := 14, ground := Ground.phase }, { on := 15, ground := Ground.phase }, { on := 16, ground := Ground.phase }, { on := 17, ground := Ground.phase }, { on := 18, ground := Ground.phase }, { on := 19, ground := Ground.phase }, { on := 20, ground := Ground.phase }, { on := 21, ground := Ground.phase }], guard := none }) (v := .int .u32 ((N : Int))) rfl (by kernel_rfl) (by kernel_rfl) (by kernel_rfl) (fun _ _ _ h => h.elim) (Or.inl ⟨by rfl, ?y22⟩) hS ?_
  case y22 =>
    intro W hW
    rw [hSd] at hW; obtain ⟨s1, s2, s3, s4⟩ := hW
    go_simp
  simp only [Act.put, List.setIfInBounds_toArray, List.set_cons_zero, List.set_cons_succ]
  refine wpAnyH_done (by kernel_rfl) ?_ _
  go_wp2
  go_ret
  exact ⟨rfl, 1, rfl⟩
end Go.Proofs.Ytchblcfbllcbmab.Oct
