/-
  Layer 12 (deps): the comparison that the sort is handed: its one statement, whatever its order.
-/
import Derived.Test.YtijkpkcopjkhkaaCmp
namespace Go.Proofs.Ytijkpkcopjkhkaa.Oct
open Go.RowKit

set_option maxRecDepth 100000 in
set_option maxHeartbeats 2000000 in
theorem cmp_region {Q : Exit → Act → World → Prop} {x0 x1 x4 x5 x6 x7 : Value} {ds : List Deferred} {A : World} {b1 b2 : Nat} {cx cy : List Value} {r : Int}
    (h41 : ∀ V : World, V.rangeAt b1 0 cx → V.rangeAt b2 0 cy → Calls Try.prog 41 #[.slice (some ⟨b1, 0, none⟩) 32 32, .slice (some ⟨b2, 0, none⟩) 32 32] V fun e w' => e = .returned (.int .i64 r) ∧ V = w') (hS : A.drew.rangeAt b1 0 cx ∧ A.drew.rangeAt b2 0 cy)
    (hQ : Q .normal { tmps := #[x0, x1, .pointer (some ⟨b1, 0, none⟩), .pointer (some ⟨b2, 0, none⟩), .int .i64 r, .slice (some ⟨b1, 0, none⟩) 32 32, .slice (some ⟨b2, 0, none⟩) 32 32, .int .i64 r], defers := ds } A.drew) :
    (Code.region 1 #[{ dst := some 5, op := Op.slice 34 (Operand.tmp 2) none none none, type := 64, pos := "deps.go:53", after := #[], guard := none }, { dst := some 6, op := Op.slice 34 (Operand.tmp 3) none none none, type := 64, pos := "deps.go:53", after := #[], guard := none }, { dst := some 7, op := Op.call { callee := Callee.value (Operand.func 41), args := #[Operand.tmp 5, Operand.tmp 6], argTypes := #[64, 64] }, type := 3, pos := "deps.go:53", after := #[{ on := 0, ground := Ground.data }, { on := 1, ground := Ground.data }], guard := none }, { dst := some 4, op := Op.assign (Operand.tmp 7), type := 3, pos := "deps.go:53", after := #[{ on := 2, ground := Ground.data }, { on := 2, ground := Ground.chain }, { on := 0, ground := Ground.phase }, { on := 1, ground := Ground.phase }, { on := 2, ground := Ground.phase }], guard := none }] true).wp Try.prog Q { tmps := #[x0, x1, .pointer (some ⟨b1, 0, none⟩), .pointer (some ⟨b2, 0, none⟩), x4, x5, x6, x7], defers := ds } A := by
  refine Code.wp_mono (Q := fun x a' w' => match x with | .normal => Q .normal a' w' | _ => False) (by intro x a' w' h; cases x <;> first | exact h | exact h.elim) ?_
  obtain ⟨S, hSd⟩ : ∃ S : World → Prop, S = fun W => W.rangeAt b1 0 cx ∧ W.rangeAt b2 0 cy := ⟨_, rfl⟩
  refine wp_region_held (S := S) (by kernel_rfl) ?_
  have hS' : S A.drew := by rw [hSd]; exact hS
  clear hS
  change wpAnyH Try.prog .any _ _ S 4 (Array.replicate 4 false) _ A.drew
  refine wpAnyH_take (i := 0) (oi := { dst := some 5, op := Op.slice 34 (Operand.tmp 2) none none none, type := 64, pos := "deps.go:53", after := #[], guard := none }) (v := .slice (some ⟨b1, 0, none⟩) 32 32) rfl (by kernel_rfl) (by kernel_rfl) (by kernel_rfl) (fun _ _ _ h => h.elim) (Or.inl ⟨by rfl, ?y0⟩) hS' ?_
  case y0 =>
    intro W hW
    rw [hSd] at hW; obtain ⟨s1, s2⟩ := hW
    go_simp
  simp only [Act.put, List.setIfInBounds_toArray, List.set_cons_zero, List.set_cons_succ]
  refine wpAnyH_take (i := 1) (oi := { dst := some 6, op := Op.slice 34 (Operand.tmp 3) none none none, type := 64, pos := "deps.go:53", after := #[], guard := none }) (v := .slice (some ⟨b2, 0, none⟩) 32 32) rfl (by kernel_rfl) (by kernel_rfl) (by kernel_rfl) (fun _ _ _ h => h.elim) (Or.inl ⟨by rfl, ?y1⟩) hS' ?_
  case y1 =>
    intro W hW
    rw [hSd] at hW; obtain ⟨s1, s2⟩ := hW
    go_simp
  simp only [Act.put, List.setIfInBounds_toArray, List.set_cons_zero, List.set_cons_succ]
  refine wpAnyH_ready (rs := [2]) (by kernel_rfl) (by simp) (AllReadyH.cons (i := 2) (o := { dst := some 7, op := Op.call { callee := Callee.value (Operand.func 41), args := #[Operand.tmp 5, Operand.tmp 6], argTypes := #[64, 64] }, type := 3, pos := "deps.go:53", after := #[{ on := 0, ground := Ground.data }, { on := 1, ground := Ground.data }], guard := none }) rfl ?_ AllReadyH.nil)
  intro K1 hK1
  rw [if_pos (by rfl)]
  have H41 := h41 A.drew (by rw [hSd] at hS'; exact hS'.1) (by rw [hSd] at hS'; exact hS'.2)
  clear h41
  go_wp2_with fail
  refine H41.mono ?_
  rintro e w' ⟨rfl, rfl⟩
  dsimp only
  refine hK1.out _ _ (by rw [hSd]; rw [hSd] at hS'; exact hS') ?_
  clear hS' hK1
  intro hS'
  try simp only [Act.put, List.setIfInBounds_toArray, List.set_cons_zero, List.set_cons_succ]
  refine wpAnyH_take (i := 3) (oi := { dst := some 4, op := Op.assign (Operand.tmp 7), type := 3, pos := "deps.go:53", after := #[{ on := 2, ground := Ground.data }, { on := 2, ground := Ground.chain }, { on := 0, ground := Ground.phase }, { on := 1, ground := Ground.phase }, { on := 2, ground := Ground.phase }], guard := none }) (v := .int .i64 r) rfl (by kernel_rfl) (by kernel_rfl) (by kernel_rfl) (fun _ _ _ h => h.elim) (Or.inl ⟨by rfl, ?y3⟩) hS' ?_
  case y3 =>
    intro W hW
    rw [hSd] at hW; obtain ⟨s1, s2⟩ := hW
    go_simp
  simp only [Act.put, List.setIfInBounds_toArray, List.set_cons_zero, List.set_cons_succ]
  refine wpAnyH_done (by kernel_rfl) ?_ _
  exact hQ
#print axioms cmp_region
end Go.Proofs.Ytijkpkcopjkhkaa.Oct
