/-
  Layer 24 (reply): what the program reads with: HasPrefix, giveUp, accept.
-/
import Derived.Test.YtkpepfeiimphpaaDoorRdr
namespace Go.Proofs.YtkpepfeiimphpaaDoor.Oct
open Go.RowKit
set_option linter.unusedSimpArgs false
set_option linter.unusedVariables false

set_option maxRecDepth 100000 in
theorem pre_g (s p : BA) (hs : s.size ≤ 140737488355328) (hp : p.size ≤ 140737488355328) (w : World) : Calls Tryd.prog 22 #[.string s, .string p] w fun e w' => e = .returned (.bool (aftB s.data.toList p.data.toList)) ∧ w = w' := by
  obtain ⟨n, hn⟩ : ∃ n, s.size = n := ⟨_, rfl⟩
  obtain ⟨m, hm⟩ : ∃ m, p.size = m := ⟨_, rfl⟩
  have hll : s.data.toList.length = n := hn
  have hlm : p.data.toList.length = m := hm
  obtain ⟨B, hB⟩ : ∃ B, aftB s.data.toList p.data.toList = B := ⟨_, rfl⟩
  rw [hB]
  have he : ((s.extract 0 m).toList == p.toList) = B := by rw [← hB, pre_take, ext_to, toList_d p, hlm]
  have qn : (n : Int) ≤ 140737488355328 := by omega
  have qm : (m : Int) ≤ 140737488355328 := by omega
  have HI : Calls Tryd.prog 32 #[.string s, .string p] w fun e w' => e = .returned (.bool B) ∧ w = w' := by
    by_cases hlt : n < m
    · have hbf : B = false := by
        rw [← hB, pre_take, beq_eq_false_iff_ne]
        intro h
        have := congrArg List.length h
        rw [List.length_take] at this
        omega
      have q1 : (n : Int) < (m : Int) := by omega
      have d1 : decide ((m : Int) ≤ (n : Int)) = false := decide_eq_false (by omega)
      subst hbf
      clear hB he hlt hll hlm hs hp
      go_enter Tryd.func32, Tryd.ntmps32
      go_wp2
      go_ret
      exact ⟨rfl, rfl⟩
    · have q1 : (m : Int) ≤ (n : Int) := by omega
      have d1 : decide ((m : Int) ≤ (n : Int)) = true := decide_eq_true q1
      clear hB hlt hll hlm hs hp
      go_enter Tryd.func32, Tryd.ntmps32
      go_wp2
      go_ret
      exact ⟨rfl, rfl⟩
  clear hn hm hll hlm hB he hs hp qn qm
  go_enter Tryd.func22, Tryd.ntmps22
  go_wp2_with fail
  refine HI.mono ?_
  rintro e W ⟨rfl, rfl⟩
  clear HI
  go_wp2
  go_ret
  exact ⟨rfl, rfl⟩
#print axioms pre_g
/-- a reader's six cells -/
abbrev rdc (s : BA) (a st : Int) (ty bo : BA) (cl : Bool) : List Value := [.string s, iv a, iv st, .string ty, .string bo, .bool cl]
/-- the error that a reader gives up with -/
abbrev gvE (a : Int) : Value := .iface 78 (.agg #[iv a, .iface 25 (iv 240)])
set_option maxRecDepth 100000 in
theorem giveUp_is {w : World} {g : Nat} {s ty bo : BA} {a st : Int} {cl : Bool} (h : Blk w g 44 (rdc s a st ty bo cl)) : Calls Tryd.prog 36 #[.pointer (some ⟨g, 0, none⟩)] w fun e w' => e = .returned (gvE a) ∧ w = w' := by
  have c1 : w.cell? ⟨g, 1, none⟩ = some (iv a) := h.cell rfl
  clear h
  go_enter Tryd.func36, Tryd.ntmps36
  go_wp2
  go_ret
  exact ⟨rfl, rfl⟩
theorem yl_from {o : Oper} {a : Act} (V : World) (x y : Operand) (s : BA) (k : Nat) (hop : o.op = .slice 9 x (some y) none none) (hx : a.eval x = .string s) (hy : a.eval y = iv (k : Int)) (hk : k ≤ s.size) (hs : s.size ≤ 140737488355328) : (execOp a.eval o).run Tryd.prog V = .ok (.value (.string (s.extract k s.size))) V := by
  have q1 : (k : Int) ≤ (s.size : Int) := by omega
  have q2 : (s.size : Int) ≤ 140737488355328 := by omega
  unfold execOp
  simp only [hop, hx, Option.map_some, hy]
  go_simp
set_option maxRecDepth 100000 in
set_option maxHeartbeats 4000000 in
theorem ac1 {Q : Exit → Act → World → Prop} {x2 x3 x4 x5 x6 x7 x8 x9 x10 x11 x12 x13 x14 x15 x16 x17 x18 x19 x20 x21 x22 x23 x24 x25 x26 x27 : Value} {ds : List Deferred} {A : World} {g a : Nat} {s p : BA} {B : Bool}
    (HL : Hid (g < A.heap.size)) (c0 : A.cell? ⟨g, 0, none⟩ = some (.string s)) (c1 : A.cell? ⟨g, 1, none⟩ = some (iv (a : Int))) (HZ : Hid (a ≤ s.size ∧ s.size ≤ 140737488355328)) (HPR : Hid (∀ V, Below A.heap.size A V → Calls Tryd.prog 22 #[.string (s.extract a s.size), .string p] V fun e V2 => e = .returned (.bool B) ∧ Below V.heap.size V V2))
    (hQ : ∀ V1, Below A.heap.size A V1 → Q .normal { tmps := #[.pointer (some ⟨g, 0, none⟩), .string p, x2, x3, x4, .bool B, .pointer (some ⟨g, 0, none⟩), .pointer (some ⟨g, 0, none⟩), .pointer (some ⟨g, 0, none⟩), .string s, .pointer (some ⟨g, 0, none⟩), .pointer (some ⟨g, 0, none⟩), .pointer (some ⟨g, 1, none⟩), iv (a : Int), .string (s.extract a s.size), .string p, .bool B, x17, x18, x19, x20, x21, x22, x23, x24, x25, x26, x27], defers := ds } V1) :
    (Code.region 1 #[{ dst := some 6, op := Op.move (Operand.tmp 0), type := 54, pos := "read.go:50", after := #[], guard := none }, { dst := some 7, op := Op.nilCheck (Operand.tmp 6), type := 0, pos := "read.go:50", after := #[{ on := 0, ground := Ground.data }], guard := none }, { dst := some 8, op := Op.fieldAddr 44 (Operand.tmp 7) 0, type := 0, pos := "read.go:50", after := #[{ on := 1, ground := Ground.data }], guard := none }, { dst := some 9, op := Op.load 9 (Operand.tmp 8), type := 9, pos := "read.go:50", after := #[{ on := 2, ground := Ground.data }], guard := none }, { dst := some 10, op := Op.move (Operand.tmp 0), type := 54, pos := "read.go:50", after := #[], guard := none }, { dst := some 11, op := Op.nilCheck (Operand.tmp 10), type := 0, pos := "read.go:50", after := #[{ on := 4, ground := Ground.data }], guard := none }, { dst := some 12, op := Op.fieldAddr 44 (Operand.tmp 11) 1, type := 0, pos := "read.go:50", after := #[{ on := 5, ground := Ground.data }], guard := none }, { dst := some 13, op := Op.load 3 (Operand.tmp 12), type := 3, pos := "read.go:50", after := #[{ on := 6, ground := Ground.data }], guard := none }, { dst := some 14, op := Op.slice 9 (Operand.tmp 9) (some (Operand.tmp 13)) none none, type := 9, pos := "read.go:50", after := #[{ on := 3, ground := Ground.data }, { on := 7, ground := Ground.data }], guard := none }, { dst := some 15, op := Op.move (Operand.tmp 1), type := 9, pos := "read.go:50", after := #[], guard := none }, { dst := some 16, op := Op.call { callee := Callee.value (Operand.func 22), args := #[Operand.tmp 14, Operand.tmp 15], argTypes := #[9, 9] }, type := 4, pos := "read.go:50", after := #[{ on := 8, ground := Ground.data }, { on := 9, ground := Ground.data }], guard := none }, { dst := some 5, op := Op.assign (Operand.tmp 16), type := 4, pos := "read.go:50", after := #[{ on := 10, ground := Ground.data }, { on := 10, ground := Ground.chain }, { on := 0, ground := Ground.phase }, { on := 1, ground := Ground.phase }, { on := 2, ground := Ground.phase }, { on := 3, ground := Ground.phase }, { on := 4, ground := Ground.phase }, { on := 5, ground := Ground.phase }, { on := 6, ground := Ground.phase }, { on := 7, ground := Ground.phase }, { on := 8, ground := Ground.phase }, { on := 9, ground := Ground.phase }, { on := 10, ground := Ground.phase }], guard := none }] true).wp Tryd.prog Q { tmps := #[.pointer (some ⟨g, 0, none⟩), .string p, x2, x3, x4, x5, x6, x7, x8, x9, x10, x11, x12, x13, x14, x15, x16, x17, x18, x19, x20, x21, x22, x23, x24, x25, x26, x27], defers := ds } A := by
  refine Code.wp_mono (Q := fun x a' w' => match x with | .normal => Q .normal a' w' | _ => False) (by intro x a' w' h; cases x <;> first | exact h | exact h.elim) ?_
  refine wp_region_held (S := fun V => Below A.heap.size A V) (by kernel_rfl) ?_
  have hS0 : Hid (Below A.heap.size A A.drew) := below_drew0 A
  change wpAnyH Tryd.prog .any _ _ (fun V => Below A.heap.size A V) 12 (Array.replicate 12 false) _ A.drew
  obtain ⟨V0, hV0⟩ : ∃ V0, A.drew = V0 := ⟨_, rfl⟩
  rw [hV0]
  rw [hV0] at hS0
  clear hV0
  refine wpAnyH_take (i := 0) (oi := { dst := some 6, op := Op.move (Operand.tmp 0), type := 54, pos := "read.go:50", after := #[], guard := none }) (v := .pointer (some ⟨g, 0, none⟩)) rfl (by kernel_rfl) (by kernel_rfl) (by kernel_rfl) (fun _ _ _ h => h.elim) (Or.inl ⟨by rfl, ?y1⟩) hS0.out ?_
  case y1 =>
    intro V hV
    go_simp
  simp only [Act.put, List.setIfInBounds_toArray, List.set_cons_zero, List.set_cons_succ]
  refine wpAnyH_take (i := 1) (oi := { dst := some 7, op := Op.nilCheck (Operand.tmp 6), type := 0, pos := "read.go:50", after := #[{ on := 0, ground := Ground.data }], guard := none }) (v := .pointer (some ⟨g, 0, none⟩)) rfl (by kernel_rfl) (by kernel_rfl) (by kernel_rfl) (fun _ _ _ h => h.elim) (Or.inl ⟨by rfl, ?y2⟩) hS0.out ?_
  case y2 =>
    intro V hV
    go_simp
  simp only [Act.put, List.setIfInBounds_toArray, List.set_cons_zero, List.set_cons_succ]
  refine wpAnyH_take (i := 2) (oi := { dst := some 8, op := Op.fieldAddr 44 (Operand.tmp 7) 0, type := 0, pos := "read.go:50", after := #[{ on := 1, ground := Ground.data }], guard := none }) (v := .pointer (some ⟨g, 0, none⟩)) rfl (by kernel_rfl) (by kernel_rfl) (by kernel_rfl) (fun _ _ _ h => h.elim) (Or.inl ⟨by rfl, ?y3⟩) hS0.out ?_
  case y3 =>
    intro V hV
    go_simp
  simp only [Act.put, List.setIfInBounds_toArray, List.set_cons_zero, List.set_cons_succ]
  refine wpAnyH_take (i := 3) (oi := { dst := some 9, op := Op.load 9 (Operand.tmp 8), type := 9, pos := "read.go:50", after := #[{ on := 2, ground := Ground.data }], guard := none }) (v := .string s) rfl (by kernel_rfl) (by kernel_rfl) (by kernel_rfl) (fun _ _ _ h => h.elim) (Or.inl ⟨by rfl, ?y4⟩) hS0.out ?_
  case y4 =>
    intro V hV
    have hc : V.cell? ⟨g, 0, none⟩ = some (.string s) := ((show Below A.heap.size A V from hV).cell (p := ⟨g, 0, none⟩) (HL.out)).trans c0
    go_simp
  simp only [Act.put, List.setIfInBounds_toArray, List.set_cons_zero, List.set_cons_succ]
  refine wpAnyH_take (i := 4) (oi := { dst := some 10, op := Op.move (Operand.tmp 0), type := 54, pos := "read.go:50", after := #[], guard := none }) (v := .pointer (some ⟨g, 0, none⟩)) rfl (by kernel_rfl) (by kernel_rfl) (by kernel_rfl) (fun _ _ _ h => h.elim) (Or.inl ⟨by rfl, ?y5⟩) hS0.out ?_
  case y5 =>
    intro V hV
    go_simp
  simp only [Act.put, List.setIfInBounds_toArray, List.set_cons_zero, List.set_cons_succ]
  refine wpAnyH_take (i := 5) (oi := { dst := some 11, op := Op.nilCheck (Operand.tmp 10), type := 0, pos := "read.go:50", after := #[{ on := 4, ground := Ground.data }], guard := none }) (v := .pointer (some ⟨g, 0, none⟩)) rfl (by kernel_rfl) (by kernel_rfl) (by kernel_rfl) (fun _ _ _ h => h.elim) (Or.inl ⟨by rfl, ?y6⟩) hS0.out ?_
  case y6 =>
    intro V hV
    go_simp
  simp only [Act.put, List.setIfInBounds_toArray, List.set_cons_zero, List.set_cons_succ]
  refine wpAnyH_take (i := 6) (oi := { dst := some 12, op := Op.fieldAddr 44 (Operand.tmp 11) 1, type := 0, pos := "read.go:50", after := #[{ on := 5, ground := Ground.data }], guard := none }) (v := .pointer (some ⟨g, 1, none⟩)) rfl (by kernel_rfl) (by kernel_rfl) (by kernel_rfl) (fun _ _ _ h => h.elim) (Or.inl ⟨by rfl, ?y7⟩) hS0.out ?_
  case y7 =>
    intro V hV
    go_simp
  simp only [Act.put, List.setIfInBounds_toArray, List.set_cons_zero, List.set_cons_succ]
  refine wpAnyH_take (i := 7) (oi := { dst := some 13, op := Op.load 3 (Operand.tmp 12), type := 3, pos := "read.go:50", after := #[{ on := 6, ground := Ground.data }], guard := none }) (v := iv (a : Int)) rfl (by kernel_rfl) (by kernel_rfl) (by kernel_rfl) (fun _ _ _ h => h.elim) (Or.inl ⟨by rfl, ?y8⟩) hS0.out ?_
  case y8 =>
    intro V hV
    have hc : V.cell? ⟨g, 1, none⟩ = some (iv (a : Int)) := ((show Below A.heap.size A V from hV).cell (p := ⟨g, 1, none⟩) (HL.out)).trans c1
    go_simp
  simp only [Act.put, List.setIfInBounds_toArray, List.set_cons_zero, List.set_cons_succ]
  refine wpAnyH_take (i := 8) (oi := { dst := some 14, op := Op.slice 9 (Operand.tmp 9) (some (Operand.tmp 13)) none none, type := 9, pos := "read.go:50", after := #[{ on := 3, ground := Ground.data }, { on := 7, ground := Ground.data }], guard := none }) (v := .string (s.extract a s.size)) rfl (by kernel_rfl) (by kernel_rfl) (by kernel_rfl) (fun _ _ _ h => h.elim) (Or.inl ⟨by rfl, ?y9⟩) hS0.out ?_
  case y9 =>
    intro V hV
    exact yl_from V (.tmp 9) (.tmp 13) _ _ rfl rfl rfl HZ.out.1 HZ.out.2
  simp only [Act.put, List.setIfInBounds_toArray, List.set_cons_zero, List.set_cons_succ]
  refine wpAnyH_take (i := 9) (oi := { dst := some 15, op := Op.move (Operand.tmp 1), type := 9, pos := "read.go:50", after := #[], guard := none }) (v := .string p) rfl (by kernel_rfl) (by kernel_rfl) (by kernel_rfl) (fun _ _ _ h => h.elim) (Or.inl ⟨by rfl, ?y10⟩) hS0.out ?_
  case y10 =>
    intro V hV
    go_simp
  simp only [Act.put, List.setIfInBounds_toArray, List.set_cons_zero, List.set_cons_succ]
  refine wpAnyH_ready (rs := [10]) (by kernel_rfl) (by simp) (AllReadyH.cons (i := 10) (o := { dst := some 16, op := Op.call { callee := Callee.value (Operand.func 22), args := #[Operand.tmp 14, Operand.tmp 15], argTypes := #[9, 9] }, type := 4, pos := "read.go:50", after := #[{ on := 8, ground := Ground.data }, { on := 9, ground := Ground.data }], guard := none }) rfl ?_ AllReadyH.nil)
  · intro K1 hK1
    rw [if_pos (by rfl)]
    have HC1 := HPR.out V0 hS0.out
    go_wp2_with fail
    refine HC1.mono ?_
    rintro e V1 ⟨rfl, hb1⟩
    dsimp only
    clear HC1
    have hS1 : Hid (Below A.heap.size A V1) := hS0.out.trans (hb1.mono hS0.out.size)
    clear hb1
    refine hK1.out _ _ hS1.out ?_
    clear hK1
    intro _
    try simp only [Act.put, List.setIfInBounds_toArray, List.set_cons_zero, List.set_cons_succ]
    refine wpAnyH_take (i := 11) (oi := { dst := some 5, op := Op.assign (Operand.tmp 16), type := 4, pos := "read.go:50", after := #[{ on := 10, ground := Ground.data }, { on := 10, ground := Ground.chain }, { on := 0, ground := Ground.phase }, { on := 1, ground := Ground.phase }, { on := 2, ground := Ground.phase }, { on := 3, ground := Ground.phase }, { on := 4, ground := Ground.phase }, { on := 5, ground := Ground.phase }, { on := 6, ground := Ground.phase }, { on := 7, ground := Ground.phase }, { on := 8, ground := Ground.phase }, { on := 9, ground := Ground.phase }, { on := 10, ground := Ground.phase }], guard := none }) (v := .bool B) rfl (by kernel_rfl) (by kernel_rfl) (by kernel_rfl) (fun _ _ _ h => h.elim) (Or.inl ⟨by rfl, ?y11⟩) hS1.out ?_
    case y11 =>
      intro V hV
      go_simp
    simp only [Act.put, List.setIfInBounds_toArray, List.set_cons_zero, List.set_cons_succ]
    refine wpAnyH_done (by kernel_rfl) ?_ _
    exact hQ V1 hS1.out
#print axioms ac1
set_option maxRecDepth 100000 in
set_option maxHeartbeats 1000000 in
theorem accept_is {w : World} {g a : Nat} {s ty bo : BA} {st : Int} {cl : Bool} (h : Blk w g 44 (rdc s (a : Int) st ty bo cl)) (ha : a ≤ s.size) (hs : s.size ≤ 140737488355328) (p : BA) (hp : p.size ≤ 1000) : Calls Tryd.prog 35 #[.pointer (some ⟨g, 0, none⟩), .string p] w fun e w' => ∃ a' : Nat, e = .returned (.bool (aftB (s.data.toList.drop a) p.data.toList)) ∧ Hid (Blk w' g 44 (rdc s (a' : Int) st ty bo cl) ∧ a' ≤ s.size ∧ s.data.toList.drop a' = aftL (s.data.toList.drop a) p.data.toList ∧ a ≤ a' ∧ w.grownBy w' (some g)) := by
  obtain ⟨B, hB⟩ : ∃ B, aftB (s.data.toList.drop a) p.data.toList = B := ⟨_, rfl⟩
  have HB : Hid (aftB (s.data.toList.drop a) p.data.toList = B) := hB
  rw [hB]
  clear hB
  have HZ : Hid (a ≤ s.size ∧ s.size ≤ 140737488355328) := ⟨ha, hs⟩
  have HPR : Hid (∀ V, Below w.heap.size w V → Calls Tryd.prog 22 #[.string (s.extract a s.size), .string p] V fun e V2 => e = .returned (.bool B) ∧ Below V.heap.size V V2) := by
    intro V _
    refine (pre_g (s.extract a s.size) p (by rw [ByteArray.size_extract]; omega) (by omega) V).mono ?_
    rintro e V2 ⟨rfl, rfl⟩
    rw [ext_from, HB.out]
    exact ⟨rfl, Below.refl _ _⟩
  have HK : Hid (Blk w g 44 (rdc s (a : Int) st ty bo cl)) := h
  have HPS : Hid (p.size ≤ 1000) := hp
  clear h ha hs hp
  go_enter Tryd.func35, Tryd.ntmps35
  go_wp2
  refine ac1 HK.out.lt (HK.out.cell rfl) (HK.out.cell rfl) HZ HPR ?_
  intro V1 hb1
  have HV : Hid (Blk V1 g 44 (rdc s (a : Int) st ty bo cl) ∧ w.grownBy V1 (some g)) := ⟨HK.out.below hb1 HK.out.lt, hb1.1, hb1.2, hb1.3, hb1.size, fun k hk _ => hb1.block k hk⟩
  clear hb1 HPR
  cases B
  · go_wp2
    go_ret
    refine ⟨a, rfl, HV.out.1, HZ.out.1, ?_, Nat.le_refl _, HV.out.2⟩
    unfold aftL
    rw [HB.out]
    rfl
  · obtain ⟨m, hm⟩ : ∃ m, p.size = m := ⟨_, rfl⟩
    have hle : a + m ≤ s.size := by
      have := HB.out
      unfold aftB at this
      rw [List.isPrefixOf_iff_prefix] at this
      have h1 := this.length_le
      have h2 : p.data.toList.length = m := hm
      have h3 : s.data.toList.length = s.size := rfl
      have h4 := HZ.out.1
      rw [List.length_drop] at h1
      omega
    have HM : Hid (p.data.toList.length = m ∧ a + m ≤ s.size) := ⟨hm, hle⟩
    have c1 : V1.cell? ⟨g, 1, none⟩ = some (iv (a : Int)) := HV.out.1.cell rfl
    have f1 : V1.frozen? ⟨g, 1, none⟩ = false := HV.out.1.free 1
    have q1 : (a : Int) + (m : Int) ≤ 140737488355328 := by have := HZ.out.2; omega
    obtain ⟨W2, hX⟩ : ∃ X, V1.setCell ⟨g, 1, none⟩ (iv ((a : Int) + (m : Int))) = X := ⟨_, rfl⟩
    have HW : Hid (Blk W2 g 44 (rdc s ((a + m : Nat) : Int) st ty bo cl) ∧ w.grownBy W2 (some g)) := by
      refine ⟨?_, ?_⟩
      · rw [← hX, ← Int.natCast_add]; exact HV.out.1.set 1 _
      · rw [← hX]; exact grown_tr HV.out.2 (grown_setCell _ _ _ _)
    clear hle
    go_wp2
    go_ret
    refine ⟨a + m, rfl, HW.out.1, HM.out.2, ?_, Nat.le_add_right _ _, HW.out.2⟩
    unfold aftL
    rw [HB.out, if_pos rfl, HM.out.1, List.drop_drop]
#print axioms accept_is
end Go.Proofs.YtkpepfeiimphpaaDoor.Oct
