/-
  Layer 10 (patch): the law Cut.
-/
import Derived.Test.YtgdecjacbkicmaaGreatDoorQkE
import Derived.Test.YtgdecjacbkicmaaGreatDoorQkUlr
import Derived.Deep.MidRow
/- Layer 10 (patch): the law Cut. -/
namespace Go.Proofs.YtgdecjacbkicmaaGreatDoor.Oct
open Go.RowKit
set_option maxRecDepth 100000
set_option linter.unusedSimpArgs false
set_option linter.unusedVariables false

theorem ptB_cons (p : PV) : ∃ r, ptB p = 80 :: r := ⟨_, rfl⟩
theorem in_take {w : World} {g n c k : Nat} {l : List UInt8} (h : In w (some ⟨g, 0, none⟩) n c l) (hk : k ≤ n) : In w (some ⟨g, 0, none⟩) k c (l.take k) := by
  obtain ⟨h1, h2, h3, h4, h5⟩ := h
  refine ⟨by rw [List.length_take]; omega, by omega, by omega, (fun e => by cases e), fun hp => ?_⟩
  obtain ⟨b, off, e1, e2, e3⟩ := h5 (by omega)
  refine ⟨b, off, e1, e2, fun i x hx => e3 i x ?_⟩
  rw [List.getElem?_take] at hx
  split at hx
  · exact hx
  · cases hx
/-- no beginning is a patch -/
theorem cut_none {w w' : World} {p q : PV} (hp : PR w p) (hc : chk p = 0) (hq : PR w' q) (hcq : chk q = 0) {k : Nat} (hk : k < (ptB p).length) (he : ptB q = (ptB p).take k) : False := by
  obtain ⟨x, hx, _⟩ := pP_enc (A := 16) (P := 64) (T := 200) (by omega) (by omega) (by omega) hp hc []
  obtain ⟨y, hy, _⟩ := pP_enc (A := 16) (P := 64) (T := 200) (by omega) (by omega) (by omega) hq hcq ((ptB p).drop k)
  rw [he, List.take_append_drop] at hy
  rw [List.append_nil, hy] at hx
  simp only [Option.some.injEq, Prod.mk.injEq] at hx
  have := congrArg List.length hx.2
  rw [List.length_drop, List.length_nil] at this
  omega
theorem more_none {w : World} {p p2 : PV} (hp : PR w p) (hc : chk p = 0) (m : UInt8) (h : pP 16 64 200 (ptB p ++ [m]) = some (p2, [])) : False := by
  obtain ⟨x, hx, _⟩ := pP_enc (A := 16) (P := 64) (T := 200) (by omega) (by omega) (by omega) hp hc [m]
  rw [hx] at h
  simp at h
theorem dp_cut {w W V : World} {p : PV} {e : Ending} {k : Nat} (hp : PR w p) (hc : chk p = 0) (hk : k < (ptB p).length) (h : DP W ((ptB p).take k) e V) : Below W.heap.size W V ∧ e = .returned (.tuple #[.agg p00.cells.toArray, iv 103]) := by
  refine ⟨h.1, ?_⟩
  rcases h.2 with h2 | ⟨p2, q, h1, h2, _, h3, h4⟩
  · exact h2.1
  · exfalso
    have e1 := pP_some h1 h2
    rw [List.append_nil] at e1
    exact cut_none hp hc h3.pr (h4.chk.trans h2) hk (by rw [h4.bytes, ← e1])
theorem dp_more {w W V : World} {p : PV} {e : Ending} {m : UInt8} (hp : PR w p) (hc : chk p = 0) (h : DP W (ptB p ++ [m]) e V) : Below W.heap.size W V ∧ e = .returned (.tuple #[.agg p00.cells.toArray, iv 103]) := by
  refine ⟨h.1, ?_⟩
  rcases h.2 with h2 | ⟨p2, q, h1, h2, _, h3, h4⟩
  · exact h2.1
  · exact (more_none hp hc m h1).elim
theorem slice_to36 (g n c k : Nat) (hk : k ≤ c) (W : World) : (Instr.slice 26 (.slice (some ⟨g, 0, none⟩) n c) none (some (.int .i64 (k : Int))) none).run Tryz.prog W = .ok (.slice (some ⟨g, 0, none⟩) k c) W := by
  obtain ⟨i, hi, hsz⟩ := Option.map_eq_some_iff.1 size36
  simp [Instr.slice, run_underlying elem36, Instr.sliceBounds, Instr.sliceBound, asIntOf, sizeOf, typeInfo, hi, hsz, hk, Addr.add_lit]
theorem wpList_slice_to36 {ops : Array Oper} {rest : List Oper} {o : Oper} {a : Act} {Q : Exit → Act → World → Prop} {w : World} (hgd : o.guard = none) (x hi : Operand) (hop : o.op = Op.slice 26 x none (some hi) none)
    (v v' : Value) (s : Nat) (hx : a.eval x = v) (hhi : a.eval hi = .int .i64 (s : Int)) (hrun : ∀ W, (Instr.slice 26 v none (some (.int .i64 (s : Int))) none).run Tryz.prog W = .ok v' W)
    (h : wpList Tryz.prog ops Q rest (a.put o.dst v') w) : wpList Tryz.prog ops Q (o :: rest) a w := by
  refine wpList_plain hgd fun K hK => ?_
  unfold Oper.wp
  simp [execOp, hop, hx, hhi, run_sliceAt_slice _ 26 _ _ _ _ elem36, hrun, Result.andThen]
  exact hK _ _ h
theorem bs36 (W : World) : (Instr.buildSlice 26 0 #[]).run Tryz.prog W = .ok (.slice (some ⟨W.heap.size, 0, none⟩) 0 0) (W.alloc (.cells #[] 5)) := by kernel_rfl
theorem bs36y (m : UInt8) (W : World) : (Instr.buildSlice 26 1 #[(0, bv (m.toNat : Int))]).run Tryz.prog W = .ok (.slice (some ⟨W.heap.size, 0, none⟩) 1 1) (W.alloc (.cells #[bv (m.toNat : Int)] 5)) := by kernel_rfl
end Go.Proofs.YtgdecjacbkicmaaGreatDoor.Oct
