/-
  Layer 10 (patch): the law Unlike: its drawn regions.
-/
import Derived.Test.YtgdecjacbkicmaaDoorQkInj
import Derived.Deep.MidRow
/- Layer 10 (patch): the law Unlike: its drawn regions. -/
namespace Go.Proofs.YtgdecjacbkicmaaDoor.Oct
open Go.RowKit
set_option maxRecDepth 100000
set_option linter.unusedSimpArgs false
set_option linter.unusedVariables false

theorem yl_conv {o : Oper} {a : Act} (V : World) (x : Operand) (v r : Value) (hr : (convert 28 9 v).run Tryd.prog V = .ok r V) (hop : o.op = .convert 28 9 x) (h1 : a.eval x = v) : (execOp a.eval o).run Tryd.prog V = .ok (.value r) V := by
  unfold execOp
  simp only [hop, h1, Sem.run_bind, Sem.run_pure, hr, Result.andThen_ok]
theorem yl_eqS {o : Oper} {a : Act} (V : World) (p q : Operand) (x y : BA) (B : Bool) (hB : (x.toList == y.toList) = B) (hop : o.op = .binOp .eql 9 p q 9) (h1 : a.eval p = .string x) (h2 : a.eval q = .string y) : (execOp a.eval o).run Tryd.prog V = .ok (.value (.bool B)) V := by
  subst hB
  unfold execOp
  simp only [hop, h1, h2, Sem.run_bind, Sem.run_pure]
  first
  | (simp [eqGuard, go_sem, Tryd.underlying9]; done)
  | (go_simp; done)
theorem yl_eqB {o : Oper} {a : Act} (V : World) (p q : Operand) (x y : Bool) (B : Bool) (hB : (x == y) = B) (hop : o.op = .binOp .eql 4 p q 4) (h1 : a.eval p = .bool x) (h2 : a.eval q = .bool y) : (execOp a.eval o).run Tryd.prog V = .ok (.value (.bool B)) V := by
  subst hB
  unfold execOp
  simp only [hop, h1, h2, Sem.run_bind, Sem.run_pure]
  first
  | (simp [eqGuard, go_sem, Tryd.underlying4]; done)
  | (go_simp; done)
theorem yl_neB {o : Oper} {a : Act} (V : World) (p q : Operand) (x y : Bool) (B : Bool) (hB : (x != y) = B) (hop : o.op = .binOp .neq 4 p q 4) (h1 : a.eval p = .bool x) (h2 : a.eval q = .bool y) : (execOp a.eval o).run Tryd.prog V = .ok (.value (.bool B)) V := by
  subst hB
  unfold execOp
  simp only [hop, h1, h2, Sem.run_bind, Sem.run_pure]
  first
  | (simp [eqGuard, go_sem, Tryd.underlying4, bne]; done)
  | (go_simp; done)
theorem ptB_len {w : World} {p : PV} (h : PR w p) (hc : chk p = 0) : (ptB p).length ≤ 1000000 := by
  obtain ⟨hh, hdd, hoo⟩ := chk_of hc
  obtain ⟨s1, s2, s3, s4, _⟩ := head_of hh
  obtain ⟨s5, _⟩ := deps_of hdd
  obtain ⟨s6, s7, s8, s9⟩ := ops_of hoo
  have dl := h.deps.1
  have ol := h.ops.1
  have a1 := encT_len p.au (by omega)
  have a2 := enc_ten p.tm.toNat (by omega)
  have a3 := encT_len p.nt (by omega)
  have a4 := enc_ten p.dn (by omega)
  have a5 := enc_ten p.on (by omega)
  have a6 := flat_len id 32 p.D (fun x hx => Nat.le_of_eq (h.deps.2.1 x hx))
  have a7 := flat_len (encO p.D) 14000 p.O (fun x hx => encO_len p.D x (by omega) (s9 x hx) (h.ops.2.1 x hx).1.2.2.1 (by have := many_mem hx; omega))
  unfold ptB
  simp only [List.length_cons, List.length_append]
  omega
/-- what Encode answers, in one form -/
theorem encode_any (w : World) (p : PV) (h : PR w p) (E : Int) (hE : chk p = E) : Calls Tryd.prog 6 #[.agg p.cells.toArray] w fun e w' => ∃ (va : Option Addr) (n c : Nat), e = .returned (.tuple #[.slice va n c, iv E]) ∧ Hid (E = 0 → In w' va n c (ptB p)) ∧ Below w.heap.size w w' := by
  refine (encode_is w p h).mono ?_
  rintro e w' ⟨h1, hb⟩
  rcases h1 with ⟨hc, rfl⟩ | ⟨hc, va, n, c, rfl, ho, hn⟩
  · exact ⟨none, 0, 0, by rw [hE], fun h0 => absurd (hE.trans h0) hc, hb⟩
  · refine ⟨va, n, c, by rw [← hE, hc], fun _ => ?_, hb⟩
    obtain ⟨a, cp, e1, hin, _⟩ := own_in ho.out (by have := ptB_len h hc; omega)
    cases e1
    rw [hn]
    exact hin
end Go.Proofs.YtgdecjacbkicmaaDoor.Oct
