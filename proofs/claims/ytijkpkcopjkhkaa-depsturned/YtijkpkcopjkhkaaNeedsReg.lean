/-
  Layer 12 (deps): Needs and Above: their last statements, whatever their order.
-/
import Derived.Test.YtijkpkcopjkhkaaReach
namespace Go.Proofs.Ytijkpkcopjkhkaa.Oct
open Go.RowKit

set_option maxRecDepth 100000 in
set_option maxHeartbeats 2000000 in
theorem needs_region {Q : Exit → Act → World → Prop} {x1 x2 x4 x5 x6 x7 x8 x9 x10 : Value} {ds : List Deferred} {A : World} {hb : Nat} {h : Hs} {s : Value} {P1 : Nat → World → Prop} {P2 : Value → World → Prop}
    (hl : h.length = 32) (h29 : Calls Try.prog 29 #[s] A.drew fun e w1 => ∃ b, e = .returned (.map (some b)) ∧ Hid (P1 b w1)) (h1 : ∀ b w1, P1 b w1 → w1.rangeAt hb 0 (U h)) (h30 : ∀ b w1, P1 b w1 → Calls Try.prog 30 #[.map (some b), .agg (U h).toArray] w1 fun e w2 => ∃ v, e = .returned v ∧ Hid (P2 v w2)) (h2 : ∀ v w2, P2 v w2 → w2.rangeAt hb 0 (U h)) (hS : A.drew.rangeAt hb 0 (U h))
    (hQ : ∀ b v w2, P2 v w2 → Q .normal { tmps := #[s, x1, x2, .pointer (some ⟨hb, 0, none⟩), v, x5, x6, s, .map (some b), .agg (U h).toArray, v], defers := ds } w2) :
    (Code.region 3 #[{ dst := some 7, op := Op.move (Operand.tmp 0), type := 22, pos := "deps.go:103", after := #[], guard := none }, { dst := some 8, op := Op.call { callee := Callee.value (Operand.func 29), args := #[Operand.tmp 7], argTypes := #[22] }, type := 48, pos := "deps.go:103", after := #[{ on := 0, ground := Ground.data }], guard := none }, { dst := some 9, op := Op.load 34 (Operand.tmp 3), type := 34, pos := "deps.go:103", after := #[], guard := none }, { dst := some 10, op := Op.call { callee := Callee.value (Operand.func 30), args := #[Operand.tmp 8, Operand.tmp 9], argTypes := #[48, 34] }, type := 26, pos := "deps.go:103", after := #[{ on := 1, ground := Ground.data }, { on := 2, ground := Ground.data }, { on := 1, ground := Ground.chain }], guard := none }, { dst := some 4, op := Op.assign (Operand.tmp 10), type := 26, pos := "deps.go:103", after := #[{ on := 3, ground := Ground.data }, { on := 3, ground := Ground.chain }, { on := 0, ground := Ground.phase }, { on := 1, ground := Ground.phase }, { on := 2, ground := Ground.phase }, { on := 3, ground := Ground.phase }], guard := none }] true).wp Try.prog Q { tmps := #[s, x1, x2, .pointer (some ⟨hb, 0, none⟩), x4, x5, x6, x7, x8, x9, x10], defers := ds } A := by
  refine Code.wp_mono (Q := fun x a' w' => match x with | .normal => Q .normal a' w' | _ => False) (by intro x a' w' h; cases x <;> first | exact h | exact h.elim) ?_
  obtain ⟨S, hSd⟩ : ∃ S : World → Prop, S = fun W => W.rangeAt hb 0 (U h) := ⟨_, rfl⟩
  refine wp_region_held (S := S) (by kernel_rfl) ?_
  have hS' : S A.drew := by rw [hSd]; exact hS
  clear hS
  change wpAnyH Try.prog .any _ _ S 5 (Array.replicate 5 false) _ A.drew
  refine wpAnyH_take (i := 0) (oi := { dst := some 7, op := Op.move (Operand.tmp 0), type := 22, pos := "deps.go:103", after := #[], guard := none }) (v := s) rfl (by kernel_rfl) (by kernel_rfl) (by kernel_rfl) (fun _ _ _ h => h.elim) (Or.inl ⟨by rfl, ?y0⟩) hS' ?_
  case y0 =>
    intro W hW
    rw [hSd] at hW; have s1 := hW
    go_simp
  simp only [Act.put, List.setIfInBounds_toArray, List.set_cons_zero, List.set_cons_succ]
  refine wpAnyH_take (i := 2) (oi := { dst := some 9, op := Op.load 34 (Operand.tmp 3), type := 34, pos := "deps.go:103", after := #[], guard := none }) (v := .agg (U h).toArray) rfl (by kernel_rfl) (by kernel_rfl) (by kernel_rfl) (fun _ _ _ h => h.elim) (yieldsIf_load_mid (by rfl) _ _ rfl _ _ rfl (U h) _ (fun W hW => by rw [hSd] at hW; have s1 := hW; exact s1) Try.underlying34 rfl (info34 h hl)) hS' ?_
  simp only [Act.put, List.setIfInBounds_toArray, List.set_cons_zero, List.set_cons_succ]
  refine wpAnyH_ready (rs := [1]) (by kernel_rfl) (by simp) (AllReadyH.cons (i := 1) (o := { dst := some 8, op := Op.call { callee := Callee.value (Operand.func 29), args := #[Operand.tmp 7], argTypes := #[22] }, type := 48, pos := "deps.go:103", after := #[{ on := 0, ground := Ground.data }], guard := none }) rfl ?_ AllReadyH.nil)
  intro K1 hK1
  rw [if_pos (by rfl)]
  go_wp2_with fail
  refine h29.mono ?_
  rintro e w1 ⟨b, rfl, H1⟩
  dsimp only
  refine hK1.out _ _ (by rw [hSd]; exact h1 b w1 H1.out) ?_
  clear hS' hK1
  intro hS'
  try simp only [Act.put, List.setIfInBounds_toArray, List.set_cons_zero, List.set_cons_succ]
  refine wpAnyH_ready (rs := [3]) (by kernel_rfl) (by simp) (AllReadyH.cons (i := 3) (o := { dst := some 10, op := Op.call { callee := Callee.value (Operand.func 30), args := #[Operand.tmp 8, Operand.tmp 9], argTypes := #[48, 34] }, type := 26, pos := "deps.go:103", after := #[{ on := 1, ground := Ground.data }, { on := 2, ground := Ground.data }, { on := 1, ground := Ground.chain }], guard := none }) rfl ?_ AllReadyH.nil)
  intro K1 hK1
  rw [if_pos (by rfl)]
  have H30 := h30 b w1 H1.out
  clear h30 h29
  go_wp2_with fail
  refine H30.mono ?_
  rintro e w2 ⟨v, rfl, H2⟩
  dsimp only
  refine hK1.out _ _ (by rw [hSd]; exact h2 v w2 H2.out) ?_
  clear hS' hK1
  intro hS'
  try simp only [Act.put, List.setIfInBounds_toArray, List.set_cons_zero, List.set_cons_succ]
  refine wpAnyH_take (i := 4) (oi := { dst := some 4, op := Op.assign (Operand.tmp 10), type := 26, pos := "deps.go:103", after := #[{ on := 3, ground := Ground.data }, { on := 3, ground := Ground.chain }, { on := 0, ground := Ground.phase }, { on := 1, ground := Ground.phase }, { on := 2, ground := Ground.phase }, { on := 3, ground := Ground.phase }], guard := none }) (v := v) rfl (by kernel_rfl) (by kernel_rfl) (by kernel_rfl) (fun _ _ _ h => h.elim) (Or.inl ⟨by rfl, ?y4⟩) hS' ?_
  case y4 =>
    intro W hW
    rw [hSd] at hW; have s1 := hW
    go_simp
  simp only [Act.put, List.setIfInBounds_toArray, List.set_cons_zero, List.set_cons_succ]
  refine wpAnyH_done (by kernel_rfl) ?_ _
  exact hQ b v w2 H2.out
#print axioms needs_region
set_option maxRecDepth 100000 in
set_option maxHeartbeats 2000000 in
theorem above_region {Q : Exit → Act → World → Prop} {x1 x2 x4 x5 x6 x7 x8 x9 x10 : Value} {ds : List Deferred} {A : World} {hb : Nat} {h : Hs} {s : Value} {P1 : Nat → World → Prop} {P2 : Value → World → Prop}
    (hl : h.length = 32) (h29 : Calls Try.prog 32 #[s] A.drew fun e w1 => ∃ b, e = .returned (.map (some b)) ∧ Hid (P1 b w1)) (h1 : ∀ b w1, P1 b w1 → w1.rangeAt hb 0 (U h)) (h30 : ∀ b w1, P1 b w1 → Calls Try.prog 30 #[.map (some b), .agg (U h).toArray] w1 fun e w2 => ∃ v, e = .returned v ∧ Hid (P2 v w2)) (h2 : ∀ v w2, P2 v w2 → w2.rangeAt hb 0 (U h)) (hS : A.drew.rangeAt hb 0 (U h))
    (hQ : ∀ b v w2, P2 v w2 → Q .normal { tmps := #[s, x1, x2, .pointer (some ⟨hb, 0, none⟩), v, x5, x6, s, .map (some b), .agg (U h).toArray, v], defers := ds } w2) :
    (Code.region 3 #[{ dst := some 7, op := Op.move (Operand.tmp 0), type := 22, pos := "deps.go:111", after := #[], guard := none }, { dst := some 8, op := Op.call { callee := Callee.value (Operand.func 32), args := #[Operand.tmp 7], argTypes := #[22] }, type := 48, pos := "deps.go:111", after := #[{ on := 0, ground := Ground.data }], guard := none }, { dst := some 9, op := Op.load 34 (Operand.tmp 3), type := 34, pos := "deps.go:111", after := #[], guard := none }, { dst := some 10, op := Op.call { callee := Callee.value (Operand.func 30), args := #[Operand.tmp 8, Operand.tmp 9], argTypes := #[48, 34] }, type := 26, pos := "deps.go:111", after := #[{ on := 1, ground := Ground.data }, { on := 2, ground := Ground.data }, { on := 1, ground := Ground.chain }], guard := none }, { dst := some 4, op := Op.assign (Operand.tmp 10), type := 26, pos := "deps.go:111", after := #[{ on := 3, ground := Ground.data }, { on := 3, ground := Ground.chain }, { on := 0, ground := Ground.phase }, { on := 1, ground := Ground.phase }, { on := 2, ground := Ground.phase }, { on := 3, ground := Ground.phase }], guard := none }] true).wp Try.prog Q { tmps := #[s, x1, x2, .pointer (some ⟨hb, 0, none⟩), x4, x5, x6, x7, x8, x9, x10], defers := ds } A := by
  refine Code.wp_mono (Q := fun x a' w' => match x with | .normal => Q .normal a' w' | _ => False) (by intro x a' w' h; cases x <;> first | exact h | exact h.elim) ?_
  obtain ⟨S, hSd⟩ : ∃ S : World → Prop, S = fun W => W.rangeAt hb 0 (U h) := ⟨_, rfl⟩
  refine wp_region_held (S := S) (by kernel_rfl) ?_
  have hS' : S A.drew := by rw [hSd]; exact hS
  clear hS
  change wpAnyH Try.prog .any _ _ S 5 (Array.replicate 5 false) _ A.drew
  refine wpAnyH_take (i := 0) (oi := { dst := some 7, op := Op.move (Operand.tmp 0), type := 22, pos := "deps.go:111", after := #[], guard := none }) (v := s) rfl (by kernel_rfl) (by kernel_rfl) (by kernel_rfl) (fun _ _ _ h => h.elim) (Or.inl ⟨by rfl, ?y0⟩) hS' ?_
  case y0 =>
    intro W hW
    rw [hSd] at hW; have s1 := hW
    go_simp
  simp only [Act.put, List.setIfInBounds_toArray, List.set_cons_zero, List.set_cons_succ]
  refine wpAnyH_take (i := 2) (oi := { dst := some 9, op := Op.load 34 (Operand.tmp 3), type := 34, pos := "deps.go:111", after := #[], guard := none }) (v := .agg (U h).toArray) rfl (by kernel_rfl) (by kernel_rfl) (by kernel_rfl) (fun _ _ _ h => h.elim) (yieldsIf_load_mid (by rfl) _ _ rfl _ _ rfl (U h) _ (fun W hW => by rw [hSd] at hW; have s1 := hW; exact s1) Try.underlying34 rfl (info34 h hl)) hS' ?_
  simp only [Act.put, List.setIfInBounds_toArray, List.set_cons_zero, List.set_cons_succ]
  refine wpAnyH_ready (rs := [1]) (by kernel_rfl) (by simp) (AllReadyH.cons (i := 1) (o := { dst := some 8, op := Op.call { callee := Callee.value (Operand.func 32), args := #[Operand.tmp 7], argTypes := #[22] }, type := 48, pos := "deps.go:111", after := #[{ on := 0, ground := Ground.data }], guard := none }) rfl ?_ AllReadyH.nil)
  intro K1 hK1
  rw [if_pos (by rfl)]
  go_wp2_with fail
  refine h29.mono ?_
  rintro e w1 ⟨b, rfl, H1⟩
  dsimp only
  refine hK1.out _ _ (by rw [hSd]; exact h1 b w1 H1.out) ?_
  clear hS' hK1
  intro hS'
  try simp only [Act.put, List.setIfInBounds_toArray, List.set_cons_zero, List.set_cons_succ]
  refine wpAnyH_ready (rs := [3]) (by kernel_rfl) (by simp) (AllReadyH.cons (i := 3) (o := { dst := some 10, op := Op.call { callee := Callee.value (Operand.func 30), args := #[Operand.tmp 8, Operand.tmp 9], argTypes := #[48, 34] }, type := 26, pos := "deps.go:111", after := #[{ on := 1, ground := Ground.data }, { on := 2, ground := Ground.data }, { on := 1, ground := Ground.chain }], guard := none }) rfl ?_ AllReadyH.nil)
  intro K1 hK1
  rw [if_pos (by rfl)]
  have H30 := h30 b w1 H1.out
  clear h30 h29
  go_wp2_with fail
  refine H30.mono ?_
  rintro e w2 ⟨v, rfl, H2⟩
  dsimp only
  refine hK1.out _ _ (by rw [hSd]; exact h2 v w2 H2.out) ?_
  clear hS' hK1
  intro hS'
  try simp only [Act.put, List.setIfInBounds_toArray, List.set_cons_zero, List.set_cons_succ]
  refine wpAnyH_take (i := 4) (oi := { dst := some 4, op := Op.assign (Operand.tmp 10), type := 26, pos := "deps.go:111", after := #[{ on := 3, ground := Ground.data }, { on := 3, ground := Ground.chain }, { on := 0, ground := Ground.phase }, { on := 1, ground := Ground.phase }, { on := 2, ground := Ground.phase }, { on := 3, ground := Ground.phase }], guard := none }) (v := v) rfl (by kernel_rfl) (by kernel_rfl) (by kernel_rfl) (fun _ _ _ h => h.elim) (Or.inl ⟨by rfl, ?y4⟩) hS' ?_
  case y4 =>
    intro W hW
    rw [hSd] at hW; have s1 := hW
    go_simp
  simp only [Act.put, List.setIfInBounds_toArray, List.set_cons_zero, List.set_cons_succ]
  refine wpAnyH_done (by kernel_rfl) ?_ _
  exact hQ b v w2 H2.out
#print axioms above_region
end Go.Proofs.Ytijkpkcopjkhkaa.Oct
