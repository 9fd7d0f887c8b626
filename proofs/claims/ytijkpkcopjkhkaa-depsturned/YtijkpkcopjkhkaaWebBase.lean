/-
  Layer 12 (deps): the memory of a web: rows of numbers, the rows above, numbers by names.
-/
import Derived.Test.YtijkpkcopjkhkaaClosed
import Derived.Deep.OwnRows
namespace Go.Proofs.Ytijkpkcopjkhkaa.Oct
open Go.RowKit

def IV (xs : List Nat) : List Value := xs.map fun (n : Nat) => Value.int .i64 (n : Int)
theorem IV_length (xs : List Nat) : (IV xs).length = xs.length := by simp [IV]
theorem IV_append (a b : List Nat) : IV (a ++ b) = IV a ++ IV b := by simp [IV]
theorem IV_get (xs : List Nat) (i x : Nat) (h : xs[i]? = some x) : (IV xs)[i]? = some (.int .i64 (x : Int)) := by simp [IV, h]
theorem IV_one (xs : List Nat) : ∀ v ∈ IV xs, v.oneCell' = true := by
  intro v hv
  obtain ⟨x, _, rfl⟩ := List.mem_map.1 hv
  rfl
theorem made_list (z : Value) (n : Nat) : madeCells #[z] n = (List.replicate n z).toArray := by
  apply Array.ext
  · simp [size_madeCells]
  · intro i h1 h2
    simp [madeCells, Nat.mod_one]
theorem run_mk55 (n : Nat) (hn : n ≤ 100000) (W : World) : (Instr.makeSlice 55 (.int .i64 (n : Int)) (.int .i64 (n : Int))).run Try.prog W = .ok (.slice (some ⟨W.heap.size, 0, none⟩) n n) (W.alloc (.cells (List.replicate n (.slice none 0 0)).toArray 56)) := by
  rw [run_make_row' (P := Try.prog) 55 56 (.slice none 0 0) 24 Try.underlying55 (by kernel_rfl) rfl .i64 .i64 n (by omega) (by omega) W, made_list]
theorem run_mk56 (n : Nat) (hn : n ≤ 100000) (W : World) : (Instr.makeSlice 56 (.int .i64 (n : Int)) (.int .i64 (n : Int))).run Try.prog W = .ok (.slice (some ⟨W.heap.size, 0, none⟩) n n) (W.alloc (.cells (List.replicate n (.int .i64 0)).toArray 3)) := by
  rw [run_make_row' (P := Try.prog) 56 3 (.int .i64 0) 8 Try.underlying56 (by kernel_rfl) rfl .i64 .i64 n (by omega) (by omega) W, made_list]
theorem zero58 (W : World) : (zeroValue 58).run Try.prog W = .ok (.agg #[.slice none 0 0, .slice none 0 0, .slice none 0 0]) W := by kernel_rfl
section
variable {o : Oper} {a : Act} {w : World} {K : Act → World → Prop} {Q : Exit → Act → World → Prop}
theorem wp_mk55 (l c : Operand) (hop : o.op = Op.makeSlice 55 l c) (n : Nat) (hl : a.eval l = .int .i64 (n : Int)) (hc : a.eval c = .int .i64 (n : Int)) (hn : n ≤ 100000)
    (hK : K (a.put o.dst (.slice (some ⟨w.heap.size, 0, none⟩) n n)) (w.alloc (.cells (List.replicate n (.slice none 0 0)).toArray 56))) : Oper.wp Try.prog o a w K Q := by
  unfold Oper.wp execOp
  simp only [hop, hl, hc, run_mk55 n hn, Result.andThen_ok, Sem.run_bind, Sem.run_pure]
  exact hK
theorem wp_mk56 (l c : Operand) (hop : o.op = Op.makeSlice 56 l c) (n : Nat) (hl : a.eval l = .int .i64 (n : Int)) (hc : a.eval c = .int .i64 (n : Int)) (hn : n ≤ 100000)
    (hK : K (a.put o.dst (.slice (some ⟨w.heap.size, 0, none⟩) n n)) (w.alloc (.cells (List.replicate n (.int .i64 0)).toArray 3))) : Oper.wp Try.prog o a w K Q := by
  unfold Oper.wp execOp
  simp only [hop, hl, hc, run_mk56 n hn, Result.andThen_ok, Sem.run_bind, Sem.run_pure]
  exact hK
theorem wp_al58 (d : Tmp) (hd : o.dst = some d) (hop : o.op = Op.alloc 58)
    (hK : K (a.put (some d) (.pointer (some ⟨w.heap.size, 0, none⟩))) (w.alloc (.cells #[.slice none 0 0, .slice none 0 0, .slice none 0 0] 58))) : Oper.wp Try.prog o a w K Q := by
  obtain ⟨od, oo, ot, op, oa, og⟩ := o
  dsimp only at hop hd
  subst hop hd
  have hz := zero58
  go_wp2
  exact hK
end

/-! ### rows of numbers -/
theorem info3 : ∃ i : TypeInfo, Try.prog.info? 3 = some i ∧ i.size = 1 ∧ i.bytes = 8 ∧ ∃ z, i.zero = some z ∧ z.cells.size = 1 := by
  obtain ⟨i, hi, he⟩ := Option.map_eq_some_iff.1 (show (Try.prog.info? 3).map (fun i => (i.size, i.bytes, i.zero.map (·.cells.size))) = some (1, 8, some 1) by kernel_rfl)
  simp only [Prod.mk.injEq] at he
  obtain ⟨z, hz, hz2⟩ := Option.map_eq_some_iff.1 he.2.2
  exact ⟨i, hi, he.1, he.2.1, z, hz, hz2⟩
theorem run_appI (w : World) (B : Nat) (ty : TypeId) (v : Value) (xs : List Nat) (g y : Nat) (hown : w.ownsRow B 3 1 v xs.length (IV xs)) (hx : w.cell? ⟨g, 0, none⟩ = some (.int .i64 (y : Int))) (hn : xs.length ≤ 1000000) (hB : B ≤ w.heap.size) :
    ∃ v' w', (Builtin.append_ #[56, 56] ty #[v, .slice (some ⟨g, 0, none⟩) 1 1]).run Try.prog w = .ok v' w' ∧ w'.ownsRow B 3 1 v' (xs.length + 1) (IV (xs ++ [y])) ∧ w.grownBy w' v.ownBlock ∧ (v'.ownBlock = v.ownBlock ∨ v'.ownBlock = some w.heap.size) := by
  obtain ⟨i, hi, hs1, hby, z, hz, hzs⟩ := info3
  have h63 : xs.length + 1 ≤ maxLen := by unfold maxLen; omega
  have hnews : ∀ j u, (IV [y])[j]? = some u → w.cell? ((⟨g, 0, none⟩ : Addr).add j) = some u := fun j u hj => by
    rw [Addr.add_lit]
    cases j with
    | zero => simp [IV] at hj; subst hj; exact hx
    | succ j => simp [IV] at hj
  obtain ⟨v', w', hrun, ho, hg2, _⟩ := run_append_own w B 56 ty 3 i z 1 8 Try.underlying56 hi hz hs1 hby hzs (by omega) v xs.length (IV xs) hown ⟨g, 0, none⟩ 1 1 (IV [y]) rfl hnews (IV_one [y]) h63 (by omega) hB
  refine ⟨v', w', hrun, by rw [IV_append]; exact ho, hg2, ?_⟩
  rcases hown.2 with ⟨rfl, hx0⟩ | ⟨g', cap, cur, rfl, hbg, hg', hnc, hcm, hcs, htake⟩
  · have hr2 := run_append_nil (P := Try.prog) w 56 ty 3 i z Try.underlying56 hi hz ⟨g, 0, none⟩ 1 1 (IV [y]) (by rw [hs1]; rfl) hnews (by omega) (by omega) (by rw [hby]; omega)
    rw [hr2] at hrun
    injection hrun with e1 e2
    exact .inr (by rw [← e1]; rfl)
  · by_cases hroom : xs.length + 1 ≤ cap
    · have hr2 := run_append_room (P := Try.prog) w 56 ty 3 i Try.underlying56 hi g' xs.length cap cur hg' ⟨g, 0, none⟩ 1 1 (IV [y]) (by rw [hs1]; rfl) hnews (IV_one [y]) hroom (by rw [hs1, hcs]; simp [IV]; omega)
      rw [hr2] at hrun
      injection hrun with e1 e2
      exact .inl (by rw [← e1]; rfl)
    · have holds := hown.cells (g := g') rfl
      have hr2 := run_append_grow (P := Try.prog) w 56 ty 3 i z Try.underlying56 hi hz ⟨g', 0, none⟩ xs.length cap (IV xs) (by rw [hs1, IV_length]; omega) holds ⟨g, 0, none⟩ 1 1 (IV [y]) (by rw [hs1]; rfl) hnews (by omega) (by omega) (growslice_fits (by omega) (by rw [hby]; omega))
      rw [hr2] at hrun
      injection hrun with e1 e2
      exact .inr (by rw [← e1]; rfl)
#print axioms run_appI
end Go.Proofs.Ytijkpkcopjkhkaa.Oct
