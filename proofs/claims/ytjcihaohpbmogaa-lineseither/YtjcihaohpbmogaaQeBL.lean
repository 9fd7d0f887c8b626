/-
  Layer 11 (lines): leave.
-/
import Derived.Test.YtjcihaohpbmogaaQeBK
/- Layer 11 (lines): leave. -/
namespace Go.Proofs.Ytjcihaohpbmogaa.Oct
open Go.RowKit
set_option maxRecDepth 100000
set_option linter.unusedSimpArgs false
set_option linter.unusedVariables false
set_option linter.unusedSectionVars false

set_option maxRecDepth 100000 in
set_option maxHeartbeats 4000000 in
theorem lv57 {Q : Exit → Act → World → Prop} {x1 x2 x4 x5 x6 x7 x8 x9 x10 x11 x12 x13 x14 x15 x16 x17 x18 x19 x20 x21 x22 x23 x24 x25 x26 x27 x28 x29 : Value} {ds : List Deferred} {A : World} {p d3 lb m : Nat} {y z : Vx} {q : Value}
    (HL : Hid (p < A.heap.size ∧ d3 < A.heap.size ∧ lb < A.heap.size)) (HR : Hid (A.rangeAt d3 0 y.cells ∧ A.rangeAt lb 2 z.cells)) (HV : Hid (y.ok ∧ z.ok)) (c0 : A.cell? ⟨p, 0, none⟩ = some (.map (some m))) (HK : Hid ((∀ V, Below A.heap.size A V → (Instr.lookup 65 (.map (some m)) (.agg y.cells.toArray) false).run Try.prog V = .ok (.pointer (some ⟨lb, 0, none⟩)) V) ∧ ∀ V, Below A.heap.size A V → (Instr.lookup 65 (.map (some m)) (.agg z.cells.toArray) false).run Try.prog V = .ok q V))
    (hQ : ∀ V1, Below A.heap.size A V1 → Q .normal { tmps := #[.pointer (some ⟨p, 0, none⟩), x1, x2, .pointer (some ⟨d3, 0, none⟩), q, .pointer (some ⟨p, 0, none⟩), .pointer (some ⟨p, 0, none⟩), .pointer (some ⟨p, 0, none⟩), .map (some m), .pointer (some ⟨p, 0, none⟩), .pointer (some ⟨p, 0, none⟩), .pointer (some ⟨p, 0, none⟩), .map (some m), .agg y.cells.toArray, .pointer (some ⟨lb, 0, none⟩), .pointer (some ⟨lb, 0, none⟩), .pointer (some ⟨lb, 2, none⟩), .agg z.cells.toArray, q, x19, x20, x21, x22, x23, x24, x25, x26, x27, x28, x29], defers := ds } V1) :
    (Code.region 1 #[{ dst := some 5, op := Op.move (Operand.tmp 0), type := 25, pos := "change.go:104", after := #[], guard := none }, { dst := some 6, op := Op.nilCheck (Operand.tmp 5), type := 0, pos := "change.go:104", after := #[{ on := 0, ground := Ground.data }], guard := none }, { dst := some 7, op := Op.fieldAddr 67 (Operand.tmp 6) 0, type := 0, pos := "change.go:104", after := #[{ on := 1, ground := Ground.data }], guard := none }, { dst := some 8, op := Op.load 65 (Operand.tmp 7), type := 65, pos := "change.go:104", after := #[{ on := 2, ground := Ground.data }], guard := none }, { dst := some 9, op := Op.move (Operand.tmp 0), type := 25, pos := "change.go:104", after := #[], guard := none }, { dst := some 10, op := Op.nilCheck (Operand.tmp 9), type := 0, pos := "change.go:104", after := #[{ on := 4, ground := Ground.data }], guard := none }, { dst := some 11, op := Op.fieldAddr 67 (Operand.tmp 10) 0, type := 0, pos := "change.go:104", after := #[{ on := 5, ground := Ground.data }], guard := none }, { dst := some 12, op := Op.load 65 (Operand.tmp 11), type := 65, pos := "change.go:104", after := #[{ on := 6, ground := Ground.data }], guard := none }, { dst := some 13, op := Op.load 34 (Operand.tmp 3), type := 34, pos := "change.go:104", after := #[], guard := none }, { dst := some 14, op := Op.lookup 65 (Operand.tmp 12) (Operand.tmp 13) false, type := 71, pos := "change.go:104", after := #[{ on := 7, ground := Ground.data }, { on := 8, ground := Ground.data }], guard := none }, { dst := some 15, op := Op.nilCheck (Operand.tmp 14), type := 0, pos := "change.go:104", after := #[{ on := 9, ground := Ground.data }], guard := none }, { dst := some 16, op := Op.fieldAddr 86 (Operand.tmp 15) 2, type := 0, pos := "change.go:104", after := #[{ on := 10, ground := Ground.data }], guard := none }, { dst := some 17, op := Op.load 34 (Operand.tmp 16), type := 34, pos := "change.go:104", after := #[{ on := 11, ground := Ground.data }], guard := none }, { dst := some 18, op := Op.lookup 65 (Operand.tmp 8) (Operand.tmp 17) false, type := 71, pos := "change.go:104", after := #[{ on := 3, ground := Ground.data }, { on := 12, ground := Ground.data }], guard := none }, { dst := some 4, op := Op.assign (Operand.tmp 18), type := 71, pos := "change.go:104", after := #[{ on := 13, ground := Ground.data }, { on := 0, ground := Ground.phase }, { on := 1, ground := Ground.phase }, { on := 2, ground := Ground.phase }, { on := 3, ground := Ground.phase }, { on := 4, ground := Ground.phase }, { on := 5, ground := Ground.phase }, { on := 6, ground := Ground.phase }, { on := 7, ground := Ground.phase }, { on := 8, ground := Ground.phase }, { on := 9, ground := Ground.phase }, { on := 10, ground := Ground.phase }, { on := 11, ground := Ground.phase }, { on := 12, ground := Ground.phase }, { on := 13, ground := Ground.phase }], guard := none }] true).wp Try.prog Q { tmps := #[.pointer (some ⟨p, 0, none⟩), x1, x2, .pointer (some ⟨d3, 0, none⟩), x4, x5, x6, x7, x8, x9, x10, x11, x12, x13, x14, x15, x16, x17, x18, x19, x20, x21, x22, x23, x24, x25, x26, x27, x28, x29], defers := ds } A := by
  refine Code.wp_mono (Q := fun x a' w' => match x with | .normal => Q .normal a' w' | _ => False) (by intro x a' w' h; cases x <;> first | exact h | exact h.elim) ?_
  refine wp_region_held (S := fun V => Below A.heap.size A V) (by kernel_rfl) ?_
  have hS0 : Hid (Below A.heap.size A A.drew) := below_drew0 A
  change wpAnyH Try.prog .any _ _ (fun V => Below A.heap.size A V) 15 (Array.replicate 15 false) _ A.drew
  obtain ⟨V0, hV0⟩ : ∃ V0, A.drew = V0 := ⟨_, rfl⟩
  rw [hV0]
  rw [hV0] at hS0
  clear hV0
  refine wpAnyH_take (i := 0) (oi := { dst := some 5, op := Op.move (Operand.tmp 0), type := 25, pos := "change.go:104", after := #[], guard := none }) (v := .pointer (some ⟨p, 0, none⟩)) rfl (by kernel_rfl) (by kernel_rfl) (by kernel_rfl) (fun _ _ _ h => h.elim) (Or.inl ⟨by rfl, ?y1⟩) hS0.out ?_
  case y1 =>
    intro V hV
    go_simp
  simp only [Act.put, List.setIfInBounds_toArray, List.set_cons_zero, List.set_cons_succ]
  refine wpAnyH_take (i := 1) (oi := { dst := some 6, op := Op.nilCheck (Operand.tmp 5), type := 0, pos := "change.go:104", after := #[{ on := 0, ground := Ground.data }], guard := none }) (v := .pointer (some ⟨p, 0, none⟩)) rfl (by kernel_rfl) (by kernel_rfl) (by kernel_rfl) (fun _ _ _ h => h.elim) (Or.inl ⟨by rfl, ?y2⟩) hS0.out ?_
  case y2 =>
    intro V hV
    go_simp
  simp only [Act.put, List.setIfInBounds_toArray, List.set_cons_zero, List.set_cons_succ]
  refine wpAnyH_take (i := 2) (oi := { dst := some 7, op := Op.fieldAddr 67 (Operand.tmp 6) 0, type := 0, pos := "change.go:104", after := #[{ on := 1, ground := Ground.data }], guard := none }) (v := .pointer (some ⟨p, 0, none⟩)) rfl (by kernel_rfl) (by kernel_rfl) (by kernel_rfl) (fun _ _ _ h => h.elim) (Or.inl ⟨by rfl, ?y3⟩) hS0.out ?_
  case y3 =>
    intro V hV
    go_simp
  simp only [Act.put, List.setIfInBounds_toArray, List.set_cons_zero, List.set_cons_succ]
  refine wpAnyH_take (i := 3) (oi := { dst := some 8, op := Op.load 65 (Operand.tmp 7), type := 65, pos := "change.go:104", after := #[{ on := 2, ground := Ground.data }], guard := none }) (v := .map (some m)) rfl (by kernel_rfl) (by kernel_rfl) (by kernel_rfl) (fun _ _ _ h => h.elim) (Or.inl ⟨by rfl, ?y4⟩) hS0.out ?_
  case y4 =>
    intro V hV
    have hc : V.cell? ⟨p, 0, none⟩ = some (.map (some m)) := (hV.cell (p := ⟨p, 0, none⟩) HL.out.1).trans c0
    go_simp
  simp only [Act.put, List.setIfInBounds_toArray, List.set_cons_zero, List.set_cons_succ]
  refine wpAnyH_take (i := 4) (oi := { dst := some 9, op := Op.move (Operand.tmp 0), type := 25, pos := "change.go:104", after := #[], guard := none }) (v := .pointer (some ⟨p, 0, none⟩)) rfl (by kernel_rfl) (by kernel_rfl) (by kernel_rfl) (fun _ _ _ h => h.elim) (Or.inl ⟨by rfl, ?y5⟩) hS0.out ?_
  case y5 =>
    intro V hV
    go_simp
  simp only [Act.put, List.setIfInBounds_toArray, List.set_cons_zero, List.set_cons_succ]
  refine wpAnyH_take (i := 5) (oi := { dst := some 10, op := Op.nilCheck (Operand.tmp 9), type := 0, pos := "change.go:104", after := #[{ on := 4, ground := Ground.data }], guard := none }) (v := .pointer (some ⟨p, 0, none⟩)) rfl (by kernel_rfl) (by kernel_rfl) (by kernel_rfl) (fun _ _ _ h => h.elim) (Or.inl ⟨by rfl, ?y6⟩) hS0.out ?_
  case y6 =>
    intro V hV
    go_simp
  simp only [Act.put, List.setIfInBounds_toArray, List.set_cons_zero, List.set_cons_succ]
  refine wpAnyH_take (i := 6) (oi := { dst := some 11, op := Op.fieldAddr 67 (Operand.tmp 10) 0, type := 0, pos := "change.go:104", after := #[{ on := 5, ground := Ground.data }], guard := none }) (v := .pointer (some ⟨p, 0, none⟩)) rfl (by kernel_rfl) (by kernel_rfl) (by kernel_rfl) (fun _ _ _ h => h.elim) (Or.inl ⟨by rfl, ?y7⟩) hS0.out ?_
  case y7 =>
    intro V hV
    go_simp
  simp only [Act.put, List.setIfInBounds_toArray, List.set_cons_zero, List.set_cons_succ]
  refine wpAnyH_take (i := 7) (oi := { dst := some 12, op := Op.load 65 (Operand.tmp 11), type := 65, pos := "change.go:104", after := #[{ on := 6, ground := Ground.data }], guard := none }) (v := .map (some m)) rfl (by kernel_rfl) (by kernel_rfl) (by kernel_rfl) (fun _ _ _ h => h.elim) (Or.inl ⟨by rfl, ?y8⟩) hS0.out ?_
  case y8 =>
    intro V hV
    have hc : V.cell? ⟨p, 0, none⟩ = some (.map (some m)) := (hV.cell (p := ⟨p, 0, none⟩) HL.out.1).trans c0
    go_simp
  simp only [Act.put, List.setIfInBounds_toArray, List.set_cons_zero, List.set_cons_succ]
  refine wpAnyH_take (i := 8) (oi := { dst := some 13, op := Op.load 34 (Operand.tmp 3), type := 34, pos := "change.go:104", after := #[], guard := none }) (v := .agg y.cells.toArray) rfl (by kernel_rfl) (by kernel_rfl) (by kernel_rfl) (fun _ _ _ h => h.elim) (yieldsIf_load_mid (by rfl) _ _ rfl _ _ rfl (y.cells) _ (fun V hV => rangeAt_same (HR.out.1) ((show Below A.heap.size A V from hV).block _ (HL.out.2.1))) Try.underlying34 rfl (info34 HV.out.1)) hS0.out ?_
  simp only [Act.put, List.setIfInBounds_toArray, List.set_cons_zero, List.set_cons_succ]
  refine wpAnyH_take (i := 9) (oi := { dst := some 14, op := Op.lookup 65 (Operand.tmp 12) (Operand.tmp 13) false, type := 71, pos := "change.go:104", after := #[{ on := 7, ground := Ground.data }, { on := 8, ground := Ground.data }], guard := none }) (v := .pointer (some ⟨lb, 0, none⟩)) rfl (by kernel_rfl) (by kernel_rfl) (by kernel_rfl) (fun _ _ _ h => h.elim) (Or.inl ⟨by rfl, ?y9⟩) hS0.out ?_
  case y9 =>
    intro V hV
    exact yl_lookup V 65 _ _ false _ _ _ rfl rfl rfl (HK.out.1 V hV)
  simp only [Act.put, List.setIfInBounds_toArray, List.set_cons_zero, List.set_cons_succ]
  refine wpAnyH_take (i := 10) (oi := { dst := some 15, op := Op.nilCheck (Operand.tmp 14), type := 0, pos := "change.go:104", after := #[{ on := 9, ground := Ground.data }], guard := none }) (v := .pointer (some ⟨lb, 0, none⟩)) rfl (by kernel_rfl) (by kernel_rfl) (by kernel_rfl) (fun _ _ _ h => h.elim) (Or.inl ⟨by rfl, ?y10⟩) hS0.out ?_
  case y10 =>
    intro V hV
    go_simp
  simp only [Act.put, List.setIfInBounds_toArray, List.set_cons_zero, List.set_cons_succ]
  refine wpAnyH_take (i := 11) (oi := { dst := some 16, op := Op.fieldAddr 86 (Operand.tmp 15) 2, type := 0, pos := "change.go:104", after := #[{ on := 10, ground := Ground.data }], guard := none }) (v := .pointer (some ⟨lb, 2, none⟩)) rfl (by kernel_rfl) (by kernel_rfl) (by kernel_rfl) (fun _ _ _ h => h.elim) (Or.inl ⟨by rfl, ?y11⟩) hS0.out ?_
  case y11 =>
    intro V hV
    go_simp
  simp only [Act.put, List.setIfInBounds_toArray, List.set_cons_zero, List.set_cons_succ]
  refine wpAnyH_take (i := 12) (oi := { dst := some 17, op := Op.load 34 (Operand.tmp 16), type := 34, pos := "change.go:104", after := #[{ on := 11, ground := Ground.data }], guard := none }) (v := .agg z.cells.toArray) rfl (by kernel_rfl) (by kernel_rfl) (by kernel_rfl) (fun _ _ _ h => h.elim) (yieldsIf_load_mid (by rfl) _ _ rfl _ _ rfl (z.cells) _ (fun V hV => rangeAt_same (HR.out.2) ((show Below A.heap.size A V from hV).block _ (HL.out.2.2))) Try.underlying34 rfl (info34 HV.out.2)) hS0.out ?_
  simp only [Act.put, List.setIfInBounds_toArray, List.set_cons_zero, List.set_cons_succ]
  refine wpAnyH_take (i := 13) (oi := { dst := some 18, op := Op.lookup 65 (Operand.tmp 8) (Operand.tmp 17) false, type := 71, pos := "change.go:104", after := #[{ on := 3, ground := Ground.data }, { on := 12, ground := Ground.data }], guard := none }) (v := q) rfl (by kernel_rfl) (by kernel_rfl) (by kernel_rfl) (fun _ _ _ h => h.elim) (Or.inl ⟨by rfl, ?y12⟩) hS0.out ?_
  case y12 =>
    intro V hV
    exact yl_lookup V 65 _ _ false _ _ _ rfl rfl rfl (HK.out.2 V hV)
  simp only [Act.put, List.setIfInBounds_toArray, List.set_cons_zero, List.set_cons_succ]
  refine wpAnyH_take (i := 14) (oi := { dst := some 4, op := Op.assign (Operand.tmp 18), type := 71, pos := "change.go:104", after := #[{ on := 13, ground := Ground.data }, { on := 0, ground := Ground.phase }, { on := 1, ground := Ground.phase }, { on := 2, ground := Ground.phase }, { on := 3, ground := Ground.phase }, { on := 4, ground := Ground.phase }, { on := 5, ground := Ground.phase }, { on := 6, ground := Ground.phase }, { on := 7, ground := Ground.phase }, { on := 8, ground := Ground.phase }, { on := 9, ground := Ground.phase }, { on := 10, ground := Ground.phase }, { on := 11, ground := Ground.phase }, { on := 12, ground := Ground.phase }, { on := 13, ground := Ground.phase }], guard := none }) (v := q) rfl (by kernel_rfl) (by kernel_rfl) (by kernel_rfl) (fun _ _ _ h => h.elim) (Or.inl ⟨by rfl, ?y13⟩) hS0.out ?_
  case y13 =>
    intro V hV
    go_simp
  simp only [Act.put, List.setIfInBounds_toArray, List.set_cons_zero, List.set_cons_succ]
  refine wpAnyH_done (by kernel_rfl) ?_ _
  exact hQ V0 hS0.out
theorem same_is (w : World) (d : Nat) (x y : Vx) (hx : x.ok) (hy : y.ok) (hb : Blk w d 34 y.cells) (B : Bool) (hB : eqVx x y = B) : Calls Try.prog 75 #[.agg x.cells.toArray, .pointer (some ⟨d, 0, none⟩)] w fun e w' => e = .returned (.bool B) ∧ Below w.heap.size w w' := by
  obtain ⟨d2, hd2⟩ : ∃ d, w.heap.size = d := ⟨_, rfl⟩
  obtain ⟨W, hW⟩ : ∃ W, w.alloc (.cells x.cells.toArray 34) = W := ⟨_, rfl⟩
  have S0 : Hid (Below w.heap.size w W ∧ Blk W d2 34 x.cells ∧ Blk W d 34 y.cells) := by
    have hbl : Below w.heap.size w W := by rw [← hW]; exact below_al _ _
    exact ⟨hbl, by rw [← hW, ← hd2]; exact Blk.new w _ _, hb.below hbl hb.lt⟩
  have h1 := Vx.one x
  have h2 := Try.underlying34
  have h3 := info34 hx
  have h4 := Vx.len hx
  have HV : Hid (x.ok ∧ y.ok ∧ eqVx x y = B) := ⟨hx, hy, hB⟩
  clear hx hy hb hB
  go_enter Try.func75, Try.ntmps75
  go_wp2_with (first
    | (with_reducible change wpList _ _ _ ({ dst := some 4, op := _, type := _, pos := _, after := _, guard := _ } :: _) _ _
       refine wpList_load_want rfl 34 (.tmp 2) rfl d2 0 rfl x.cells _ S0.out.2.1.range0 Try.underlying34 rfl (info34 HV.out.1) ?_)
    | (with_reducible change wpList _ _ _ ({ dst := some 5, op := _, type := _, pos := _, after := _, guard := _ } :: _) _ _
       refine wpList_load_want rfl 34 (.tmp 1) rfl d 0 rfl y.cells _ S0.out.2.2.range0 Try.underlying34 rfl (info34 HV.out.2.1) ?_)
    | (with_reducible change wpList _ _ _ ({ dst := some 6, op := _, type := _, pos := _, after := _, guard := _ } :: _) _ _
       refine wpList_eqV rfl (.tmp 4) (.tmp 5) rfl x y HV.out.1 HV.out.2.1 B HV.out.2.2 rfl rfl ?_)
    | fail)
  go_ret
  exact ⟨rfl, S0.out.1⟩
def leaveP (ps : List PL) (d id : Vx) : List PL := ps.map fun q => if q.v = d then { q with fr := q.fr.filter fun x => !eqVx x id } else q
theorem leave_ls {A B : List Ln} {l l' : Ln} (id : Vx) (hnd : ((A ++ l :: B).map (·.p.v)).Nodup) (hl : l'.p = { l.p with fr := l.p.fr.filter fun x => !eqVx x id }) : (A ++ l' :: B).map (·.p) = leaveP ((A ++ l :: B).map (·.p)) l.p.v id := by
  unfold leaveP
  rw [List.map_append, List.map_cons, List.map_append, List.map_cons, List.map_append, List.map_cons, if_pos rfl, hl]
  rw [List.map_append, List.map_cons, List.nodup_append] at hnd
  have hA : ∀ x ∈ A, x.p.v ≠ l.p.v := fun x hx e => hnd.2.2 x.p.v (List.mem_map.2 ⟨x, hx, rfl⟩) l.p.v (List.mem_cons_self) e
  have hB : ∀ x ∈ B, x.p.v ≠ l.p.v := fun x hx e => (List.nodup_cons.1 hnd.2.1).1 (e ▸ List.mem_map.2 ⟨x, hx, rfl⟩)
  congr 1
  · rw [List.map_map]
    exact List.map_congr_left fun x hx => by simp [hA x hx]
  · congr 1
    rw [List.map_map]
    exact List.map_congr_left fun x hx => by simp [hB x hx]
set_option maxHeartbeats 4000000 in
theorem leave_is {w : World} {p : Nat} {G : Gm} (h : GAt w p G) (l0 : Ln) (hl0 : l0 ∈ G.ls) (X : List Value) (hX : l0.p.v.cells = X) : Calls Try.prog 57 #[.pointer (some ⟨p, 0, none⟩), .agg X.toArray] w fun e w' => (∃ v, e = .returned v) ∧ ∃ G', GAfter w p G G' w' ∧ G'.mb = G.mb ∧ G'.ps = leaveP G.ps l0.p.down l0.p.v := by
  subst hX
  obtain ⟨d3, hd3⟩ : ∃ d, w.heap.size = d := ⟨_, rfl⟩
  obtain ⟨W1, hW1⟩ : ∃ W, w.alloc (.cells l0.p.v.cells.toArray 34) = W := ⟨_, rfl⟩
  have hok := h.ok l0 hl0
  have hbl : Below w.heap.size w W1 := by rw [← hW1]; exact below_al _ _
  have S0 : Hid (Below w.heap.size w W1 ∧ Blk W1 d3 34 l0.p.v.cells ∧ GAt W1 p G ∧ w.heap.size ≤ d3) := ⟨hbl, by rw [← hW1, ← hd3]; exact Blk.new w _ _, h.below hbl, Nat.le_of_eq hd3⟩
  have HL0 : Hid (l0 ∈ G.ls ∧ Vk l0.p.v ∧ Vk l0.p.down) := ⟨hl0, hok.v, hok.down⟩
  have HG0 : Hid (GAt w p G) := h
  have h1 := Vx.one l0.p.v
  have h2 := Try.underlying34
  have h3 := info34 hok.v.1
  have h4 := Vx.len hok.v.1
  clear h hl0 hok hbl
  go_enter Try.func57, Try.ntmps57
  go_wp2_with fail
  clear h1 h3 h4 hW1 hd3
  have c0 : W1.cell? ⟨p, 0, none⟩ = some (.map (some G.mb)) := S0.out.2.2.1.blk.cell rfl
  have HK : Hid ((∀ V, Below W1.heap.size W1 V → (Instr.lookup 65 (.map (some G.mb)) (.agg l0.p.v.cells.toArray) false).run Try.prog V = .ok (.pointer (some ⟨l0.blk, 0, none⟩)) V) ∧ ∀ V, Below W1.heap.size W1 V → (Instr.lookup 65 (.map (some G.mb)) (.agg l0.p.down.cells.toArray) false).run Try.prog V = .ok (ptrOf (G.get l0.p.down)) V) := by
    refine ⟨fun V hV => ?_, fun V hV => S0.out.2.2.1.look2 HL0.out.2.2 V (hV.block _ S0.out.2.2.1.mp.lt)⟩
    have h9 := S0.out.2.2.1.look2 HL0.out.2.1 V (hV.block _ S0.out.2.2.1.mp.lt)
    rw [get_is S0.out.2.2.1 HL0.out.1] at h9
    exact h9
  refine lv57 (q := ptrOf (G.get l0.p.down)) ⟨S0.out.2.2.1.blk.lt, S0.out.2.1.lt, (S0.out.2.2.1.ln HL0.out.1).lt⟩ ⟨S0.out.2.1.range0, blk_down (S0.out.2.2.1.ln HL0.out.1)⟩ ⟨HL0.out.2.1.1, HL0.out.2.2.1⟩ c0 HK ?_
  intro V1 hb1
  have S1 : Hid (Below w.heap.size w V1 ∧ Blk V1 d3 34 l0.p.v.cells ∧ GAt V1 p G ∧ w.heap.size ≤ d3) := ⟨below_tr S0.out.1 hb1, S0.out.2.1.below hb1 S0.out.2.1.lt, S0.out.2.2.1.below hb1, S0.out.2.2.2⟩
  clear hb1 HK c0 S0
  cases hg : G.get l0.p.down with
  | none =>
    have hnq : l0.p.down ∉ G.keys := get_none hg
    have HE : Hid (leaveP G.ps l0.p.down l0.p.v = G.ps) := by
      show _ = _
      unfold leaveP
      rw [List.map_congr_left (g := id)]
      · simp
      · intro q hq
        rw [if_neg]
        · rfl
        · intro e
          refine hnq ?_
          rw [keys_ps]
          exact List.mem_map.2 ⟨q, hq, e⟩
    have hne := neq71 (none : Option Ln)
    rw [show ptrOf (none : Option Ln) = .pointer none from rfl] at hne ⊢
    clear hg hnq
    go_wp2
    go_end0
    exact ⟨⟨_, rfl⟩, G, .same HG0.out S1.out.1, rfl, HE.out.symm⟩
  | some l =>
    have hl := get_mem hg
    have hok := S1.out.2.2.1.ok l hl.1
    have HL : Hid (l ∈ G.ls ∧ l.p.v = l0.p.down ∧ LnOk l) := ⟨hl.1, hl.2, hok⟩
    obtain ⟨lb, hlb⟩ : ∃ b, l.blk = b := ⟨_, rfl⟩
    have HLB := hid_of hlb
    have c1 : V1.cell? ⟨lb, 1, none⟩ = some (.slice (some ⟨l.rb, 0, none⟩) l.p.fr.length l.cap) := by rw [← hlb]; exact (S1.out.2.2.1.ln hl.1).cell rfl
    rw [show ptrOf (some l) = .pointer (some ⟨lb, 0, none⟩) by rw [← hlb]; rfl]
    obtain ⟨rb, hrb⟩ : ∃ b, l.rb = b := ⟨_, rfl⟩
    have HRB := hid_of hrb
    have HND : Hid (lb ≠ rb ∧ d3 ≠ rb ∧ d3 ≠ lb) := by
      have hnd := S1.out.2.2.1.ln_nd hl.1
      rw [Ln.bl_eq, hlb, hrb] at hnd
      simp only [List.nodup_cons, List.mem_cons, not_or] at hnd
      have a1 := (HG0.out.ln hl.1).lt
      have a2 := (HG0.out.row hl.1).lt
      rw [hlb] at a1
      rw [hrb] at a2
      have := S1.out.2.2.2
      exact ⟨hnd.1.1, by omega, by omega⟩
    rw [hrb] at c1
    clear hlb hrb hg hl hok
    go_wp2_with fail
    have hpk : PredK V1 rb 75 #[] #[.pointer (some ⟨d3, 0, none⟩)] (fun x => eqVx x l0.p.v) l.p.fr := by
      refine ⟨fun args W => Go.Proofs.enters_of Try.func75 (by kernel_rfl) rfl args W, fun V x hk hx => ?_⟩
      have hb := hk.blk S1.out.2.1 HND.out.2.1
      have := same_is V d3 x l0.p.v (HL.out.2.2.fr x hx).1 HL0.out.2.1.1 hb _ rfl
      simpa using this
    have hrow : Blk V1 rb 34 (FV l.p.fr ++ l.rest) := by rw [← HRB.out]; exact S1.out.2.2.1.row HL.out.1
    refine (delf_is V1 rb l.p.fr.length l.cap l.p.fr l.rest hrow HL.out.2.2.fr rfl HL.out.2.2.cap (by have := HL.out.2.2.len; omega) 75 #[] #[.pointer (some ⟨d3, 0, none⟩)] (fun x => eqVx x l0.p.v) hpk).mono ?_
    rintro e V2 ⟨m, rest', rfl, HD⟩
    obtain ⟨fr', hfr'⟩ : ∃ f, (l.p.fr.filter fun x => !eqVx x l0.p.v) = f := ⟨_, rfl⟩
    have HFR := hid_of hfr'
    rw [hfr'] at HD
    have S2 : Hid (Keep (fun k => k = rb) V1 V2 ∧ Blk V2 rb 34 (FV fr' ++ rest') ∧ fr'.length = m ∧ (FV fr' ++ rest').length = l.cap * 33 ∧ Blk V2 lb 86 l.cells) := by
      refine ⟨HD.out.1, HD.out.2.1, HD.out.2.2.1, by rw [HD.out.2.2.2]; exact HL.out.2.2.row, ?_⟩
      rw [← HLB.out]
      exact HD.out.1.blk (S1.out.2.2.1.ln HL.out.1) (by rw [HLB.out]; exact HND.out.1)
    clear hpk hrow HD c1 hfr'
    go_wp2_with (first
      | (with_reducible change wpList _ _ _ ({ dst := none, op := Op.store 35 _ _, type := _, pos := _, after := _, guard := _ } :: _) _ _
         refine Hid.out ?_)
      | fail)
    show wpList _ _ _ _ _ _
    have hc1 : l.cells[1]? = some (.slice (some ⟨l.rb, 0, none⟩) l.p.fr.length l.cap) := rfl
    refine wpList_stc rfl 35 (.tmp 29) (.tmp 27) rfl (by kernel_rfl) (v := .slice (some ⟨rb, 0, none⟩) m l.cap) rfl rfl rfl rfl S2.out.2.2.2.2 (i := 1) hc1 ?_
    intro V3 b1 b2
    have HF : Hid (∃ G', GAfter w p G G' V3 ∧ G'.mb = G.mb ∧ G'.ps = leaveP G.ps l0.p.down l0.p.v) := by
      obtain ⟨C, D, hs⟩ := split_at HL.out.1
      have ho := HL.out.2.2
      have hm := S2.out.2.2.1
      have hkk : Keep (fun k => k ∈ l.bl) V1 V3 := by
        refine (S2.out.1.mono (T := fun k => k ∈ l.bl) (fun j _ e => by rw [e, Ln.bl_eq, HRB.out]; simp)).trans (Keep.grown (S := fun k => k ∈ l.bl) b2 (by rw [Ln.bl_eq, HLB.out]; simp)) (fun _ h _ => h)
      have hmem : ∀ x ∈ fr', x ∈ l.p.fr := fun x hx => by rw [← HFR.out] at hx; exact (List.mem_filter.1 hx).1
      have hle : fr'.length ≤ l.p.fr.length := by rw [← HFR.out]; exact List.length_filter_le _ _
      refine ⟨_, (S1.out.2.2.1.turn (l' := { l with p := { l.p with fr := fr' }, rest := rest' }) hs hkk rfl rfl (fun k hk => .inl hk) (show l.bl.Nodup from S1.out.2.2.1.ln_nd HL.out.1) ?_ ?_).first S1.out.1, rfl, ?_⟩
      · intro x hx
        unfold Ln.hp at hx
        rcases List.mem_cons.1 hx with rfl | hx
        · show Blk V3 l.blk 86 _
          have e : ({ l with p := { l.p with fr := fr' }, rest := rest' } : Ln).cells = l.cells.set 1 (.slice (some ⟨rb, 0, none⟩) m l.cap) := by
            rw [← hm, ← HRB.out]
            rfl
          rw [e, HLB.out]
          exact b1
        rcases List.mem_cons.1 hx with rfl | hx
        · show Blk V3 l.rb 34 _
          rw [HRB.out]
          exact (b2.block rb S2.out.2.1.lt (fun e => HND.out.1 (Option.some.inj e).symm)).trans S2.out.2.1
        · have hx' : x ∈ killHp l.kb l.p.kills := hx
          cases hkb : l.kb with
          | none => rw [hkb] at hx'; cases hx'
          | some k =>
            rw [hkb] at hx'
            simp only [killHp, List.mem_singleton] at hx'
            subst hx'
            have hnd := S1.out.2.2.1.ln_nd HL.out.1
            rw [Ln.bl_eq, hkb, HLB.out, HRB.out] at hnd
            simp only [Option.toList, List.nodup_cons, List.mem_cons, List.not_mem_nil, or_false, not_or] at hnd
            have hkl := S1.out.2.2.1.kl HL.out.1 hkb
            have h2 := hkl.same (S2.out.1.block k hkl.lt (fun e => hnd.2.1 e.symm))
            exact h2.same (b2.block k h2.lt (fun e => hnd.1.2 (Option.some.inj e).symm))
      · exact ⟨ho.v, fun u hu => ho.fr u (hmem u hu), ho.down, trivial, S2.out.2.2.2.1, Nat.le_trans hle ho.cap, ho.big, Nat.le_trans hle ho.len, ho.no⟩
      · have hnd := S1.out.2.2.1.nodup
        unfold Gm.keys at hnd
        rw [hs] at hnd
        have := leave_ls (A := C) (B := D) (l := l) (l' := { l with p := { l.p with fr := fr' }, rest := rest' }) l0.p.v hnd (by rw [HFR.out])
        unfold Gm.ps
        rw [hs, ← HL.out.2.1]
        exact this
    clear b1 b2 hc1 S2
    go_wp2
    go_end0
    exact ⟨⟨_, rfl⟩, HF.out⟩
end Go.Proofs.Ytjcihaohpbmogaa.Oct
