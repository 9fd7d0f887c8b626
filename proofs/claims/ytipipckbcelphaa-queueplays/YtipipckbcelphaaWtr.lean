/-
  Layer 21 (queue): QueuePlays: the tries.
-/
import Derived.Test.YtipipckbcelphaaWfw
import Derived.Test.YtipipckbcelphaaWRft
import Derived.Test.YtipipckbcelphaaWrq
namespace Go.Proofs.Ytipipckbcelphaa.Oct
open Go.RowKit Go.Shelf
set_option linter.unusedSimpArgs false
set_option linter.unusedVariables false

set_option maxRecDepth 100000 in
theorem try16 (x : Int) (y : Av) (g : Nat) (A : World) (h : Blk A g 32 y.cells) : Calls Try.prog 16 #[iv x, .pointer (some ⟨g, 0, none⟩)] A fun e V => e = .returned (iv y.ans) ∧ A = V := by
  have c2 : A.cell? ⟨g, 2, none⟩ = some (iv y.ans) := h.cell rfl
  clear h
  go_enter Try.func16, Try.ntmps16
  go_wp2
  go_ret
  exact ⟨rfl, rfl⟩
/-- what the tries of a Drain answer by turns -/
def ansR (l : List Int) (s : Nat) : Int := (l[s % l.length]?).getD 0
set_option maxRecDepth 100000 in
set_option maxHeartbeats 4000000 in
theorem ans4 {Q : Exit → Act → World → Prop} {x2 x3 x4 x5 x6 x7 x8 x9 x10 x11 x12 x13 x14 x15 x16 x17 x18 : Value} {ds : List Deferred} {A : World} {g6 b11 gs os n c s q : Nat} {z : Int}
    (HL : Hid (g6 < A.heap.size ∧ b11 < A.heap.size ∧ gs < A.heap.size)) (k6 : A.cell? ⟨g6, 3, none⟩ = some (.slice (some ⟨gs, os, none⟩) n c)) (k11 : A.cell? ⟨b11, 0, none⟩ = some (iv ((s : Int) + 1))) (kz : A.cell? ⟨gs, os + q, none⟩ = some (iv z)) (HS : Hid ((s : Int) ≤ 100000)) (HQ : Hid ((s : Int).tmod (n : Int) = (q : Int) ∧ ¬ ((n : Int) = 0) ∧ (q : Int) < (n : Int) ∧ q < n ∧ q ≤ 100000))
    (hQ : ∀ V1, Below A.heap.size A V1 → Q .normal { tmps := #[.pointer (some ⟨b11, 0, none⟩), .pointer (some ⟨g6, 0, none⟩), iv z, x3, x4, x5, x6, x7, x8, .pointer (some ⟨g6, 3, none⟩), .slice (some ⟨gs, os, none⟩) n c, iv ((s : Int) + 1), iv (s : Int), .pointer (some ⟨g6, 3, none⟩), .slice (some ⟨gs, os, none⟩) n c, iv (n : Int), iv (q : Int), .pointer (some ⟨gs, os + q, none⟩), iv z], defers := ds } V1) :
    (Code.region 4 #[{ dst := some 9, op := Op.fieldAddr 32 (Operand.tmp 1) 3, type := 0, pos := "law.go:64", after := #[], guard := none }, { dst := some 10, op := Op.load 27 (Operand.tmp 9), type := 27, pos := "law.go:64", after := #[{ on := 0, ground := Ground.data }], guard := none }, { dst := some 11, op := Op.load 3 (Operand.tmp 0), type := 3, pos := "law.go:64", after := #[], guard := none }, { dst := some 12, op := Op.binOp BinOp.sub 3 (Operand.tmp 11) (Operand.const (Value.int IntKind.i64 1)) 3, type := 3, pos := "law.go:64", after := #[{ on := 2, ground := Ground.data }], guard := none }, { dst := some 13, op := Op.fieldAddr 32 (Operand.tmp 1) 3, type := 0, pos := "law.go:64", after := #[], guard := none }, { dst := some 14, op := Op.load 27 (Operand.tmp 13), type := 27, pos := "law.go:64", after := #[{ on := 4, ground := Ground.data }], guard := none }, { dst := some 15, op := Op.call { callee := Callee.builtin Builtin.len, args := #[Operand.tmp 14], argTypes := #[27] }, type := 3, pos := "law.go:64", after := #[{ on := 5, ground := Ground.data }], guard := none }, { dst := some 16, op := Op.binOp BinOp.rem 3 (Operand.tmp 12) (Operand.tmp 15) 3, type := 3, pos := "law.go:64", after := #[{ on := 3, ground := Ground.data }, { on := 6, ground := Ground.data }], guard := none }, { dst := some 17, op := Op.indexAddr 27 (Operand.tmp 10) (Operand.tmp 16), type := 0, pos := "law.go:64", after := #[{ on := 1, ground := Ground.data }, { on := 7, ground := Ground.data }], guard := none }, { dst := some 18, op := Op.load 3 (Operand.tmp 17), type := 3, pos := "law.go:64", after := #[{ on := 8, ground := Ground.data }], guard := none }, { dst := some 2, op := Op.assign (Operand.tmp 18), type := 3, pos := "law.go:64", after := #[{ on := 9, ground := Ground.data }, { on := 0, ground := Ground.phase }, { on := 1, ground := Ground.phase }, { on := 2, ground := Ground.phase }, { on := 3, ground := Ground.phase }, { on := 4, ground := Ground.phase }, { on := 5, ground := Ground.phase }, { on := 6, ground := Ground.phase }, { on := 7, ground := Ground.phase }, { on := 8, ground := Ground.phase }, { on := 9, ground := Ground.phase }], guard := none }] true).wp Try.prog Q { tmps := #[.pointer (some ⟨b11, 0, none⟩), .pointer (some ⟨g6, 0, none⟩), x2, x3, x4, x5, x6, x7, x8, x9, x10, x11, x12, x13, x14, x15, x16, x17, x18], defers := ds } A := by
  refine Code.wp_mono (Q := fun x a' w' => match x with | .normal => Q .normal a' w' | _ => False) (by intro x a' w' h; cases x <;> first | exact h | exact h.elim) ?_
  refine wp_region_held (S := fun V => Below A.heap.size A V) (by kernel_rfl) ?_
  have hS0 : Hid (Below A.heap.size A A.drew) := below_drew0 A
  change wpAnyH Try.prog .any _ _ (fun V => Below A.heap.size A V) 11 (Array.replicate 11 false) _ A.drew
  obtain ⟨V0, hV0⟩ : ∃ V0, A.drew = V0 := ⟨_, rfl⟩
  rw [hV0]
  rw [hV0] at hS0
  clear hV0
  refine wpAnyH_take (i := 0) (oi := { dst := some 9, op := Op.fieldAddr 32 (Operand.tmp 1) 3, type := 0, pos := "law.go:64", after := #[], guard := none }) (v := .pointer (some ⟨g6, 3, none⟩)) rfl (by kernel_rfl) (by kernel_rfl) (by kernel_rfl) (fun _ _ _ h => h.elim) (Or.inl ⟨by rfl, ?y1⟩) hS0.out ?_
  case y1 =>
    intro V hV
    go_simp
  simp only [Act.put, List.setIfInBounds_toArray, List.set_cons_zero, List.set_cons_succ]
  refine wpAnyH_take (i := 1) (oi := { dst := some 10, op := Op.load 27 (Operand.tmp 9), type := 27, pos := "law.go:64", after := #[{ on := 0, ground := Ground.data }], guard := none }) (v := .slice (some ⟨gs, os, none⟩) n c) rfl (by kernel_rfl) (by kernel_rfl) (by kernel_rfl) (fun _ _ _ h => h.elim) (Or.inl ⟨by rfl, ?y2⟩) hS0.out ?_
  case y2 =>
    intro V hV
    have hc : V.cell? ⟨g6, 3, none⟩ = some (.slice (some ⟨gs, os, none⟩) n c) := ((show Below A.heap.size A V from hV).cell (p := ⟨g6, 3, none⟩) (HL.out.1)).trans k6
    go_simp
  simp only [Act.put, List.setIfInBounds_toArray, List.set_cons_zero, List.set_cons_succ]
  refine wpAnyH_take (i := 2) (oi := { dst := some 11, op := Op.load 3 (Operand.tmp 0), type := 3, pos := "law.go:64", after := #[], guard := none }) (v := iv ((s : Int) + 1)) rfl (by kernel_rfl) (by kernel_rfl) (by kernel_rfl) (fun _ _ _ h => h.elim) (Or.inl ⟨by rfl, ?y3⟩) hS0.out ?_
  case y3 =>
    intro V hV
    have hc : V.cell? ⟨b11, 0, none⟩ = some (iv ((s : Int) + 1)) := ((show Below A.heap.size A V from hV).cell (p := ⟨b11, 0, none⟩) (HL.out.2.1)).trans k11
    go_simp
  simp only [Act.put, List.setIfInBounds_toArray, List.set_cons_zero, List.set_cons_succ]
  refine wpAnyH_take (i := 3) (oi := { dst := some 12, op := Op.binOp BinOp.sub 3 (Operand.tmp 11) (Operand.const (Value.int IntKind.i64 1)) 3, type := 3, pos := "law.go:64", after := #[{ on := 2, ground := Ground.data }], guard := none }) (v := iv (s : Int)) rfl (by kernel_rfl) (by kernel_rfl) (by kernel_rfl) (fun _ _ _ h => h.elim) (Or.inl ⟨by rfl, ?y4⟩) hS0.out ?_
  case y4 =>
    intro V hV
    have hq := HS.out
    have hwr : IntKind.i64.wrap ((s : Int) + 1 - 1) = (s : Int) := by rw [IntKind.wrap_i64]; omega
    have hwr2 : (s : Int) + 1 - 1 = (s : Int) := by omega
    have hwr3 : IntKind.i64.wrap (s : Int) = (s : Int) := by rw [IntKind.wrap_i64]; omega
    clear hq
    go_simp
  simp only [Act.put, List.setIfInBounds_toArray, List.set_cons_zero, List.set_cons_succ]
  refine wpAnyH_take (i := 4) (oi := { dst := some 13, op := Op.fieldAddr 32 (Operand.tmp 1) 3, type := 0, pos := "law.go:64", after := #[], guard := none }) (v := .pointer (some ⟨g6, 3, none⟩)) rfl (by kernel_rfl) (by kernel_rfl) (by kernel_rfl) (fun _ _ _ h => h.elim) (Or.inl ⟨by rfl, ?y5⟩) hS0.out ?_
  case y5 =>
    intro V hV
    go_simp
  simp only [Act.put, List.setIfInBounds_toArray, List.set_cons_zero, List.set_cons_succ]
  refine wpAnyH_take (i := 5) (oi := { dst := some 14, op := Op.load 27 (Operand.tmp 13), type := 27, pos := "law.go:64", after := #[{ on := 4, ground := Ground.data }], guard := none }) (v := .slice (some ⟨gs, os, none⟩) n c) rfl (by kernel_rfl) (by kernel_rfl) (by kernel_rfl) (fun _ _ _ h => h.elim) (Or.inl ⟨by rfl, ?y6⟩) hS0.out ?_
  case y6 =>
    intro V hV
    have hc : V.cell? ⟨g6, 3, none⟩ = some (.slice (some ⟨gs, os, none⟩) n c) := ((show Below A.heap.size A V from hV).cell (p := ⟨g6, 3, none⟩) (HL.out.1)).trans k6
    go_simp
  simp only [Act.put, List.setIfInBounds_toArray, List.set_cons_zero, List.set_cons_succ]
  refine wpAnyH_take (i := 6) (oi := { dst := some 15, op := Op.call { callee := Callee.builtin Builtin.len, args := #[Operand.tmp 14], argTypes := #[27] }, type := 3, pos := "law.go:64", after := #[{ on := 5, ground := Ground.data }], guard := none }) (v := iv (n : Int)) rfl (by kernel_rfl) (by kernel_rfl) (by kernel_rfl) (fun _ _ _ h => h.elim) (Or.inl ⟨by rfl, ?y7⟩) hS0.out ?_
  case y7 =>
    intro V hV
    go_simp
  simp only [Act.put, List.setIfInBounds_toArray, List.set_cons_zero, List.set_cons_succ]
  refine wpAnyH_take (i := 7) (oi := { dst := some 16, op := Op.binOp BinOp.rem 3 (Operand.tmp 12) (Operand.tmp 15) 3, type := 3, pos := "law.go:64", after := #[{ on := 3, ground := Ground.data }, { on := 6, ground := Ground.data }], guard := none }) (v := iv (q : Int)) rfl (by kernel_rfl) (by kernel_rfl) (by kernel_rfl) (fun _ _ _ h => h.elim) (Or.inl ⟨by rfl, ?y8⟩) hS0.out ?_
  case y8 =>
    intro V hV
    have hq := HQ.out.1
    have hn0 : ¬ n = 0 := by have := HQ.out.2.1; omega
    have hq3 := HQ.out.2.2.2.2
    have hwq : IntKind.i64.wrap (q : Int) = (q : Int) := by rw [IntKind.wrap_i64]; omega
    clear hq3
    go_simp
  simp only [Act.put, List.setIfInBounds_toArray, List.set_cons_zero, List.set_cons_succ]
  refine wpAnyH_take (i := 8) (oi := { dst := some 17, op := Op.indexAddr 27 (Operand.tmp 10) (Operand.tmp 16), type := 0, pos := "law.go:64", after := #[{ on := 1, ground := Ground.data }, { on := 7, ground := Ground.data }], guard := none }) (v := .pointer (some ⟨gs, os + q, none⟩)) rfl (by kernel_rfl) (by kernel_rfl) (by kernel_rfl) (fun _ _ _ h => h.elim) (Or.inl ⟨by rfl, ?y9⟩) hS0.out ?_
  case y9 =>
    intro V hV
    have h1 := HQ.out.2.2.1
    have h2 := HQ.out.2.2.2.1
    go_simp
  simp only [Act.put, List.setIfInBounds_toArray, List.set_cons_zero, List.set_cons_succ]
  refine wpAnyH_take (i := 9) (oi := { dst := some 18, op := Op.load 3 (Operand.tmp 17), type := 3, pos := "law.go:64", after := #[{ on := 8, ground := Ground.data }], guard := none }) (v := iv z) rfl (by kernel_rfl) (by kernel_rfl) (by kernel_rfl) (fun _ _ _ h => h.elim) (Or.inl ⟨by rfl, ?y10⟩) hS0.out ?_
  case y10 =>
    intro V hV
    have hc : V.cell? ⟨gs, os + q, none⟩ = some (iv z) := ((show Below A.heap.size A V from hV).cell (p := ⟨gs, os + q, none⟩) (HL.out.2.2)).trans kz
    go_simp
  simp only [Act.put, List.setIfInBounds_toArray, List.set_cons_zero, List.set_cons_succ]
  refine wpAnyH_take (i := 10) (oi := { dst := some 2, op := Op.assign (Operand.tmp 18), type := 3, pos := "law.go:64", after := #[{ on := 9, ground := Ground.data }, { on := 0, ground := Ground.phase }, { on := 1, ground := Ground.phase }, { on := 2, ground := Ground.phase }, { on := 3, ground := Ground.phase }, { on := 4, ground := Ground.phase }, { on := 5, ground := Ground.phase }, { on := 6, ground := Ground.phase }, { on := 7, ground := Ground.phase }, { on := 8, ground := Ground.phase }, { on := 9, ground := Ground.phase }], guard := none }) (v := iv z) rfl (by kernel_rfl) (by kernel_rfl) (by kernel_rfl) (fun _ _ _ h => h.elim) (Or.inl ⟨by rfl, ?y11⟩) hS0.out ?_
  case y11 =>
    intro V hV
    go_simp
  simp only [Act.put, List.setIfInBounds_toArray, List.set_cons_zero, List.set_cons_succ]
  refine wpAnyH_done (by kernel_rfl) ?_ _
  exact hQ V0 hS0.out
#print axioms ans4
set_option maxRecDepth 100000 in
set_option maxHeartbeats 1000000 in
theorem ans18 {A : World} {b11 g6 s : Nat} {y : Av} (h11 : Blk A b11 3 [iv (s : Int)]) (h6 : Blk A g6 32 y.cells) (ha : ArgN A y.sa y.sn y.sc y.l) (hs : s ≤ 100000) (hne : g6 ≠ b11) (hna : 0 < y.sn → ∀ b off, y.sa = some ⟨b, off, none⟩ → b ≠ b11) :
    Calls Try.prog 18 #[.pointer (some ⟨b11, 0, none⟩), .pointer (some ⟨g6, 0, none⟩)] A fun e V => e = .returned (iv (ansR y.l s)) ∧ Blk V b11 3 [iv ((s : Int) + 1)] ∧ Keep (fun k => k = b11) A V := by
  have c11 : A.cell? ⟨b11, 0, none⟩ = some (iv (s : Int)) := h11.cell rfl
  have f11 : A.frozen? ⟨b11, 0, none⟩ = false := h11.free 0
  have q0 : (s : Int) ≤ 100000 := by omega
  obtain ⟨V, hV⟩ : ∃ V, A.setCell ⟨b11, 0, none⟩ (iv ((s : Int) + 1)) = V := ⟨_, rfl⟩
  have v11 : Blk V b11 3 [iv ((s : Int) + 1)] := by rw [← hV]; exact h11.set 0 _
  have v6 : Blk V g6 32 y.cells := by rw [← hV]; exact h6.other hne _
  have hk : Keep (fun k => k = b11) A V := by rw [← hV]; exact Keep.grown (grown_setCell A b11 0 _) rfl
  have d3 : V.cell? ⟨g6, 3, none⟩ = some (.slice y.sa y.sn y.sc) := v6.cell rfl
  have HF : Hid (Blk V b11 3 [iv ((s : Int) + 1)] ∧ Keep (fun k => k = b11) A V ∧ Blk V g6 32 y.cells) := ⟨v11, hk, v6⟩
  have HA : Hid (ArgN A y.sa y.sn y.sc y.l) := ha
  have HNA : Hid (0 < y.sn → ∀ b off, y.sa = some ⟨b, off, none⟩ → b ≠ b11) := hna
  clear h11 h6 ha hne hna v11 v6 hk
  by_cases h0 : y.sn = 0
  · have HE : Hid (ansR y.l s = 0) := by
      have : y.l = [] := List.eq_nil_of_length_eq_zero (by rw [HA.out.1]; exact h0)
      show _ = _
      rw [this]; rfl
    have q1 : ((y.sn : Int) == 0) = true := by simp [h0]
    clear h0
    go_enter Try.func18, Try.ntmps18
    go_wp2
    go_ret
    exact ⟨by rw [HE.out]; rfl, HF.out.1, HF.out.2.1⟩
  · have q1 : ((y.sn : Int) == 0) = false := by simpa using h0
    have q2 : ¬ ((y.sn : Int) = 0) := by omega
    obtain ⟨gs, os, hsa, hgl, hc⟩ := HA.out.2.2.2.2 (by omega)
    obtain ⟨z, hz⟩ : ∃ z, y.l[s % y.sn]? = some z := ⟨_, List.getElem?_eq_getElem (by rw [HA.out.1]; exact Nat.mod_lt _ (by omega))⟩
    have kz : V.cell? ⟨gs, os + s % y.sn, none⟩ = some (iv z) := (World.cell?_of_block (a := ⟨gs, os + s % y.sn, none⟩) (HF.out.2.1.block gs hgl (HNA.out (by omega) gs os hsa))).trans (hc _ z hz)
    have HE : Hid (ansR y.l s = z) := by show _ = _; unfold ansR; rw [HA.out.1, hz]; rfl
    have k11 : V.cell? ⟨b11, 0, none⟩ = some (iv ((s : Int) + 1)) := HF.out.1.cell rfl
    have HL4 : Hid (g6 < V.heap.size ∧ b11 < V.heap.size ∧ gs < V.heap.size) := ⟨HF.out.2.2.lt, HF.out.1.lt, Nat.lt_of_lt_of_le hgl HF.out.2.1.size⟩
    have HS4 : Hid ((s : Int) ≤ 100000) := q0
    have HQ4 : Hid ((s : Int).tmod (y.sn : Int) = ((s % y.sn : Nat) : Int) ∧ ¬ ((y.sn : Int) = 0) ∧ ((s % y.sn : Nat) : Int) < (y.sn : Int) ∧ s % y.sn < y.sn ∧ s % y.sn ≤ 100000) := ⟨by rw [Int.tmod_eq_emod_of_nonneg (by omega)]; rfl, q2, by have := Nat.mod_lt s (show 0 < y.sn by omega); omega, Nat.mod_lt _ (by omega), Nat.le_trans (Nat.mod_le _ _) (by omega)⟩
    rw [hsa] at d3
    clear hc hz hgl h0
    go_enter Try.func18, Try.ntmps18
    go_wp2_with fail
    refine ans4 HL4 d3 k11 kz HS4 HQ4 ?_
    intro V2 hV2
    have HG : Hid (Blk V2 b11 3 [iv ((s : Int) + 1)] ∧ Keep (fun k => k = b11) A V2) := ⟨HF.out.1.below hV2 HF.out.1.lt, HF.out.2.1.trans (Keep.below (S := fun k => k = b11) hV2) (fun _ hj _ => hj)⟩
    clear hV2 kz k11 d3
    go_wp2
    go_ret
    exact ⟨by rw [HE.out]; rfl, HG.out⟩
#print axioms ans18
set_option maxRecDepth 100000 in
theorem try20 {A : World} {b11 b12 g6 s : Nat} {y : Av} (x : Int) (h12 : Blk A b12 43 [.func (.func 18) #[] #[.pointer (some ⟨b11, 0, none⟩), .pointer (some ⟨g6, 0, none⟩)]]) (h11 : Blk A b11 3 [iv (s : Int)]) (h6 : Blk A g6 32 y.cells) (ha : ArgN A y.sa y.sn y.sc y.l) (hs : s ≤ 100000) (hne : g6 ≠ b11) (hna : 0 < y.sn → ∀ b off, y.sa = some ⟨b, off, none⟩ → b ≠ b11) :
    Calls Try.prog 20 #[iv x, .pointer (some ⟨b12, 0, none⟩)] A fun e V => e = .returned (iv (ansR y.l s)) ∧ Blk V b11 3 [iv ((s : Int) + 1)] ∧ Keep (fun k => k = b11) A V := by
  have HC := ans18 h11 h6 ha hs hne hna
  have c12 : A.cell? ⟨b12, 0, none⟩ = some (.func (.func 18) #[] #[.pointer (some ⟨b11, 0, none⟩), .pointer (some ⟨g6, 0, none⟩)]) := h12.cell rfl
  clear h12 h11 h6 ha hne hna
  go_enter Try.func20, Try.ntmps20
  go_wp2_with fail
  refine HC.mono ?_
  rintro e V ⟨rfl, h1, h2⟩
  have HF : Hid (Blk V b11 3 [iv ((s : Int) + 1)] ∧ Keep (fun k => k = b11) A V) := ⟨h1, h2⟩
  clear HC h1 h2
  go_wp2
  go_ret
  exact ⟨rfl, HF.out⟩
#print axioms try20
end Go.Proofs.Ytipipckbcelphaa.Oct
