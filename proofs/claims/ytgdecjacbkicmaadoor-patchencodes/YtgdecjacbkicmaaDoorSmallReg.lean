/-
  Layer 12 (deps): the comparisons of Place and Hashes, whatever their order.
-/
import Derived.Test.YtgdecjacbkicmaaDoorSmall
namespace Go.Proofs.YtgdecjacbkicmaaDoor.Oct
open Go.RowKit
set_option maxRecDepth 100000

set_option maxRecDepth 100000 in
set_option maxHeartbeats 2000000 in
theorem place_region {Q : Exit → Act → World → Prop} {x1 x2 x4 x6 x7 x8 x9 x10 x11 x12 x13 x14 x15 x16 x17 x18 : Value} {ds : List Deferred} {A : World} {g off n c hb i : Nat} {x h : Hs} {r : Bool}
    (hx : x.length = 32) (hh : h.length = 32) (q1 : (i : Int) < (n : Int)) (heq : ∀ W, (Op.equalIn 10000 36 (.agg (U x).toArray) (.agg (U h).toArray)).run Tryd.prog W = .ok r W) (hS : A.drew.rangeAt g (off + i * 32) (U x) ∧ A.drew.rangeAt hb 0 (U h))
    (hQ : Q .normal { tmps := #[.slice (some ⟨g, off, none⟩) n c, x1, x2, .pointer (some ⟨hb, 0, none⟩), x4, .int .i64 (i : Int), x6, x7, x8, x9, x10, x11, .slice (some ⟨g, off, none⟩) n c, .int .i64 (i : Int), .pointer (some ⟨g, off + i * 32, none⟩), .agg (U x).toArray, .agg (U h).toArray, .bool r, x18], defers := ds } A.drew) :
    (Code.region 4 #[{ dst := some 12, op := Op.move (Operand.tmp 0), type := 22, pos := "ref.go:35", after := #[], guard := none }, { dst := some 13, op := Op.move (Operand.tmp 5), type := 3, pos := "ref.go:35", after := #[], guard := none }, { dst := some 14, op := Op.indexAddr 22 (Operand.tmp 12) (Operand.tmp 13), type := 0, pos := "ref.go:35", after := #[{ on := 0, ground := Ground.data }, { on := 1, ground := Ground.data }], guard := none }, { dst := some 15, op := Op.load 36 (Operand.tmp 14), type := 36, pos := "ref.go:35", after := #[{ on := 2, ground := Ground.data }], guard := none }, { dst := some 16, op := Op.load 36 (Operand.tmp 3), type := 36, pos := "ref.go:35", after := #[], guard := none }, { dst := some 17, op := Op.binOp BinOp.eql 36 (Operand.tmp 15) (Operand.tmp 16) 36, type := 4, pos := "ref.go:35", after := #[{ on := 3, ground := Ground.data }, { on := 4, ground := Ground.data }], guard := none }] true).wp Tryd.prog Q { tmps := #[.slice (some ⟨g, off, none⟩) n c, x1, x2, .pointer (some ⟨hb, 0, none⟩), x4, .int .i64 (i : Int), x6, x7, x8, x9, x10, x11, x12, x13, x14, x15, x16, x17, x18], defers := ds } A := by
  refine Code.wp_mono (Q := fun x a' w' => match x with | .normal => Q .normal a' w' | _ => False) (by intro x a' w' h; cases x <;> first | exact h | exact h.elim) ?_
  obtain ⟨S, hSd⟩ : ∃ S : World → Prop, S = fun W => W.rangeAt g (off + i * 32) (U x) ∧ W.rangeAt hb 0 (U h) := ⟨_, rfl⟩
  refine wp_region_held (S := S) (by kernel_rfl) ?_
  have hS' : S A.drew := by rw [hSd]; exact hS
  clear hS
  change wpAnyH Tryd.prog .any _ _ S 6 (Array.replicate 6 false) _ A.drew
  refine wpAnyH_take (i := 0) (oi := { dst := some 12, op := Op.move (Operand.tmp 0), type := 22, pos := "ref.go:35", after := #[], guard := none }) (v := .slice (some ⟨g, off, none⟩) n c) rfl (by kernel_rfl) (by kernel_rfl) (by kernel_rfl) (fun _ _ _ h => h.elim) (Or.inl ⟨by rfl, ?y0⟩) hS' ?_
  case y0 =>
    intro W hW
    rw [hSd] at hW; obtain ⟨s1, s2⟩ := hW
    go_simp
  simp only [Act.put, List.setIfInBounds_toArray, List.set_cons_zero, List.set_cons_succ]
  refine wpAnyH_take (i := 1) (oi := { dst := some 13, op := Op.move (Operand.tmp 5), type := 3, pos := "ref.go:35", after := #[], guard := none }) (v := .int .i64 (i : Int)) rfl (by kernel_rfl) (by kernel_rfl) (by kernel_rfl) (fun _ _ _ h => h.elim) (Or.inl ⟨by rfl, ?y1⟩) hS' ?_
  case y1 =>
    intro W hW
    rw [hSd] at hW; obtain ⟨s1, s2⟩ := hW
    go_simp
  simp only [Act.put, List.setIfInBounds_toArray, List.set_cons_zero, List.set_cons_succ]
  refine wpAnyH_take (i := 2) (oi := { dst := some 14, op := Op.indexAddr 22 (Operand.tmp 12) (Operand.tmp 13), type := 0, pos := "ref.go:35", after := #[{ on := 0, ground := Ground.data }, { on := 1, ground := Ground.data }], guard := none }) (v := .pointer (some ⟨g, off + i * 32, none⟩)) rfl (by kernel_rfl) (by kernel_rfl) (by kernel_rfl) (fun _ _ _ h => h.elim) (Or.inl ⟨by rfl, ?y2⟩) hS' ?_
  case y2 =>
    intro W hW
    rw [hSd] at hW; obtain ⟨s1, s2⟩ := hW
    go_simp
  simp only [Act.put, List.setIfInBounds_toArray, List.set_cons_zero, List.set_cons_succ]
  refine wpAnyH_take (i := 3) (oi := { dst := some 15, op := Op.load 36 (Operand.tmp 14), type := 36, pos := "ref.go:35", after := #[{ on := 2, ground := Ground.data }], guard := none }) (v := .agg (U x).toArray) rfl (by kernel_rfl) (by kernel_rfl) (by kernel_rfl) (fun _ _ _ h => h.elim) (yieldsIf_load_mid (by rfl) _ _ rfl _ _ rfl (U x) _ (fun W hW => by rw [hSd] at hW; obtain ⟨s1, s2⟩ := hW; exact s1) Tryd.underlying36 rfl (info47 x hx)) hS' ?_
  simp only [Act.put, List.setIfInBounds_toArray, List.set_cons_zero, List.set_cons_succ]
  refine wpAnyH_take (i := 4) (oi := { dst := some 16, op := Op.load 36 (Operand.tmp 3), type := 36, pos := "ref.go:35", after := #[], guard := none }) (v := .agg (U h).toArray) rfl (by kernel_rfl) (by kernel_rfl) (by kernel_rfl) (fun _ _ _ h => h.elim) (yieldsIf_load_mid (by rfl) _ _ rfl _ _ rfl (U h) _ (fun W hW => by rw [hSd] at hW; obtain ⟨s1, s2⟩ := hW; exact s2) Tryd.underlying36 rfl (info47 h hh)) hS' ?_
  simp only [Act.put, List.setIfInBounds_toArray, List.set_cons_zero, List.set_cons_succ]
  refine wpAnyH_take (i := 5) (oi := { dst := some 17, op := Op.binOp BinOp.eql 36 (Operand.tmp 15) (Operand.tmp 16) 36, type := 4, pos := "ref.go:35", after := #[{ on := 3, ground := Ground.data }, { on := 4, ground := Ground.data }], guard := none }) (v := .bool r) rfl (by kernel_rfl) (by kernel_rfl) (by kernel_rfl) (fun _ _ _ h => h.elim) (Or.inl ⟨by rfl, ?y5⟩) hS' ?_
  case y5 =>
    intro W hW
    rw [hSd] at hW; obtain ⟨s1, s2⟩ := hW
    go_simp
  simp only [Act.put, List.setIfInBounds_toArray, List.set_cons_zero, List.set_cons_succ]
  refine wpAnyH_done (by kernel_rfl) ?_ _
  exact hQ
set_option maxRecDepth 100000 in
set_option maxHeartbeats 2000000 in
theorem hashes_region {Q : Exit → Act → World → Prop} {x2 x3 x4 x6 x7 x8 x9 x10 x11 x12 x13 x14 x15 x16 x17 x18 x19 x20 x21 x22 x23 x24 x25 : Value} {ds : List Deferred} {A : World} {g off g2 off2 n c c2 i : Nat} {x y : Hs} {r : Bool}
    (hx : x.length = 32) (hy : y.length = 32) (q1 : (i : Int) < (n : Int)) (heq : ∀ W, (Op.equalIn 10000 36 (.agg (U x).toArray) (.agg (U y).toArray)).run Tryd.prog W = .ok r W) (hS : A.drew.rangeAt g (off + i * 32) (U x) ∧ A.drew.rangeAt g2 (off2 + i * 32) (U y))
    (hQ : Q .normal { tmps := #[.slice (some ⟨g, off, none⟩) n c, .slice (some ⟨g2, off2, none⟩) n c2, x2, x3, x4, .int .i64 (i : Int), x6, x7, x8, x9, x10, x11, x12, x13, x14, x15, x16, .slice (some ⟨g, off, none⟩) n c, .int .i64 (i : Int), .pointer (some ⟨g, off + i * 32, none⟩), .agg (U x).toArray, .slice (some ⟨g2, off2, none⟩) n c2, .int .i64 (i : Int), .pointer (some ⟨g2, off2 + i * 32, none⟩), .agg (U y).toArray, .bool (!r)], defers := ds } A.drew) :
    (Code.region 6 #[{ dst := some 17, op := Op.move (Operand.tmp 0), type := 22, pos := "ref.go:286", after := #[], guard := none }, { dst := some 18, op := Op.move (Operand.tmp 5), type := 3, pos := "ref.go:286", after := #[], guard := none }, { dst := some 19, op := Op.indexAddr 22 (Operand.tmp 17) (Operand.tmp 18), type := 0, pos := "ref.go:286", after := #[{ on := 0, ground := Ground.data }, { on := 1, ground := Ground.data }], guard := none }, { dst := some 20, op := Op.load 36 (Operand.tmp 19), type := 36, pos := "ref.go:286", after := #[{ on := 2, ground := Ground.data }], guard := none }, { dst := some 21, op := Op.move (Operand.tmp 1), type := 22, pos := "ref.go:286", after := #[], guard := none }, { dst := some 22, op := Op.move (Operand.tmp 5), type := 3, pos := "ref.go:286", after := #[], guard := none }, { dst := some 23, op := Op.indexAddr 22 (Operand.tmp 21) (Operand.tmp 22), type := 0, pos := "ref.go:286", after := #[{ on := 4, ground := Ground.data }, { on := 5, ground := Ground.data }], guard := none }, { dst := some 24, op := Op.load 36 (Operand.tmp 23), type := 36, pos := "ref.go:286", after := #[{ on := 6, ground := Ground.data }], guard := none }, { dst := some 25, op := Op.binOp BinOp.neq 36 (Operand.tmp 20) (Operand.tmp 24) 36, type := 4, pos := "ref.go:286", after := #[{ on := 3, ground := Ground.data }, { on := 7, ground := Ground.data }], guard := none }] true).wp Tryd.prog Q { tmps := #[.slice (some ⟨g, off, none⟩) n c, .slice (some ⟨g2, off2, none⟩) n c2, x2, x3, x4, .int .i64 (i : Int), x6, x7, x8, x9, x10, x11, x12, x13, x14, x15, x16, x17, x18, x19, x20, x21, x22, x23, x24, x25], defers := ds } A := by
  refine Code.wp_mono (Q := fun x a' w' => match x with | .normal => Q .normal a' w' | _ => False) (by intro x a' w' h; cases x <;> first | exact h | exact h.elim) ?_
  obtain ⟨S, hSd⟩ : ∃ S : World → Prop, S = fun W => W.rangeAt g (off + i * 32) (U x) ∧ W.rangeAt g2 (off2 + i * 32) (U y) := ⟨_, rfl⟩
  refine wp_region_held (S := S) (by kernel_rfl) ?_
  have hS' : S A.drew := by rw [hSd]; exact hS
  clear hS
  change wpAnyH Tryd.prog .any _ _ S 9 (Array.replicate 9 false) _ A.drew
  refine wpAnyH_take (i := 0) (oi := { dst := some 17, op := Op.move (Operand.tmp 0), type := 22, pos := "ref.go:286", after := #[], guard := none }) (v := .slice (some ⟨g, off, none⟩) n c) rfl (by kernel_rfl) (by kernel_rfl) (by kernel_rfl) (fun _ _ _ h => h.elim) (Or.inl ⟨by rfl, ?y0⟩) hS' ?_
  case y0 =>
    intro W hW
    rw [hSd] at hW; obtain ⟨s1, s2⟩ := hW
    go_simp
  simp only [Act.put, List.setIfInBounds_toArray, List.set_cons_zero, List.set_cons_succ]
  refine wpAnyH_take (i := 1) (oi := { dst := some 18, op := Op.move (Operand.tmp 5), type := 3, pos := "ref.go:286", after := #[], guard := none }) (v := .int .i64 (i : Int)) rfl (by kernel_rfl) (by kernel_rfl) (by kernel_rfl) (fun _ _ _ h => h.elim) (Or.inl ⟨by rfl, ?y1⟩) hS' ?_
  case y1 =>
    intro W hW
    rw [hSd] at hW; obtain ⟨s1, s2⟩ := hW
    go_simp
  simp only [Act.put, List.setIfInBounds_toArray, List.set_cons_zero, List.set_cons_succ]
  refine wpAnyH_take (i := 2) (oi := { dst := some 19, op := Op.indexAddr 22 (Operand.tmp 17) (Operand.tmp 18), type := 0, pos := "ref.go:286", after := #[{ on := 0, ground := Ground.data }, { on := 1, ground := Ground.data }], guard := none }) (v := .pointer (some ⟨g, off + i * 32, none⟩)) rfl (by kernel_rfl) (by kernel_rfl) (by kernel_rfl) (fun _ _ _ h => h.elim) (Or.inl ⟨by rfl, ?y2⟩) hS' ?_
  case y2 =>
    intro W hW
    rw [hSd] at hW; obtain ⟨s1, s2⟩ := hW
    go_simp
  simp only [Act.put, List.setIfInBounds_toArray, List.set_cons_zero, List.set_cons_succ]
  refine wpAnyH_take (i := 3) (oi := { dst := some 20, op := Op.load 36 (Operand.tmp 19), type := 36, pos := "ref.go:286", after := #[{ on := 2, ground := Ground.data }], guard := none }) (v := .agg (U x).toArray) rfl (by kernel_rfl) (by kernel_rfl) (by kernel_rfl) (fun _ _ _ h => h.elim) (yieldsIf_load_mid (by rfl) _ _ rfl _ _ rfl (U x) _ (fun W hW => by rw [hSd] at hW; obtain ⟨s1, s2⟩ := hW; exact s1) Tryd.underlying36 rfl (info47 x hx)) hS' ?_
  simp only [Act.put, List.setIfInBounds_toArray, List.set_cons_zero, List.set_cons_succ]
  refine wpAnyH_take (i := 4) (oi := { dst := some 21, op := Op.move (Operand.tmp 1), type := 22, pos := "ref.go:286", after := #[], guard := none }) (v := .slice (some ⟨g2, off2, none⟩) n c2) rfl (by kernel_rfl) (by kernel_rfl) (by kernel_rfl) (fun _ _ _ h => h.elim) (Or.inl ⟨by rfl, ?y4⟩) hS' ?_
  case y4 =>
    intro W hW
    rw [hSd] at hW; obtain ⟨s1, s2⟩ := hW
    go_simp
  simp only [Act.put, List.setIfInBounds_toArray, List.set_cons_zero, List.set_cons_succ]
  refine wpAnyH_take (i := 5) (oi := { dst := some 22, op := Op.move (Operand.tmp 5), type := 3, pos := "ref.go:286", after := #[], guard := none }) (v := .int .i64 (i : Int)) rfl (by kernel_rfl) (by kernel_rfl) (by kernel_rfl) (fun _ _ _ h => h.elim) (Or.inl ⟨by rfl, ?y5⟩) hS' ?_
  case y5 =>
    intro W hW
    rw [hSd] at hW; obtain ⟨s1, s2⟩ := hW
    go_simp
  simp only [Act.put, List.setIfInBounds_toArray, List.set_cons_zero, List.set_cons_succ]
  refine wpAnyH_take (i := 6) (oi := { dst := some 23, op := Op.indexAddr 22 (Operand.tmp 21) (Operand.tmp 22), type := 0, pos := "ref.go:286", after := #[{ on := 4, ground := Ground.data }, { on := 5, ground := Ground.data }], guard := none }) (v := .pointer (some ⟨g2, off2 + i * 32, none⟩)) rfl (by kernel_rfl) (by kernel_rfl) (by kernel_rfl) (fun _ _ _ h => h.elim) (Or.inl ⟨by rfl, ?y6⟩) hS' ?_
  case y6 =>
    intro W hW
    rw [hSd] at hW; obtain ⟨s1, s2⟩ := hW
    go_simp
  simp only [Act.put, List.setIfInBounds_toArray, List.set_cons_zero, List.set_cons_succ]
  refine wpAnyH_take (i := 7) (oi := { dst := some 24, op := Op.load 36 (Operand.tmp 23), type := 36, pos := "ref.go:286", after := #[{ on := 6, ground := Ground.data }], guard := none }) (v := .agg (U y).toArray) rfl (by kernel_rfl) (by kernel_rfl) (by kernel_rfl) (fun _ _ _ h => h.elim) (yieldsIf_load_mid (by rfl) _ _ rfl _ _ rfl (U y) _ (fun W hW => by rw [hSd] at hW; obtain ⟨s1, s2⟩ := hW; exact s2) Tryd.underlying36 rfl (info47 y hy)) hS' ?_
  simp only [Act.put, List.setIfInBounds_toArray, List.set_cons_zero, List.set_cons_succ]
  refine wpAnyH_take (i := 8) (oi := { dst := some 25, op := Op.binOp BinOp.neq 36 (Operand.tmp 20) (Operand.tmp 24) 36, type := 4, pos := "ref.go:286", after := #[{ on := 3, ground := Ground.data }, { on := 7, ground := Ground.data }], guard := none }) (v := .bool (!r)) rfl (by kernel_rfl) (by kernel_rfl) (by kernel_rfl) (fun _ _ _ h => h.elim) (Or.inl ⟨by rfl, ?y8⟩) hS' ?_
  case y8 =>
    intro W hW
    rw [hSd] at hW; obtain ⟨s1, s2⟩ := hW
    go_simp
  simp only [Act.put, List.setIfInBounds_toArray, List.set_cons_zero, List.set_cons_succ]
  refine wpAnyH_done (by kernel_rfl) ?_ _
  exact hQ
end Go.Proofs.YtgdecjacbkicmaaDoor.Oct
