/-
  'append(v, make([]byte, k)...)' of a slice of the call's own. Of no program.
-/
import Derived.Test.YtchblcfbllcbmaaDoorArgs
import Derived.Lib.AppendZerosOnto
import Derived.Laws.CopyRow
namespace Go.Proofs.YtchblcfbllcbmaaDoor.Oct
open Go.RowKit

theorem zeroCells_one (k : Nat) : Builtin.zeroCells #[Value.int .u8 0] k = (U (List.replicate k 0)).toArray := by
  unfold Builtin.zeroCells
  apply Array.ext'
  simp only [U, Array.toList_map, Array.toList_range, List.map_replicate]
  rw [List.eq_replicate_iff]
  refine ⟨by simp, fun b hb => ?_⟩
  obtain ⟨j, _, rfl⟩ := List.mem_map.1 hb
  simp [Nat.mod_one]

theorem zeros_own {P : Program} (w : World) (t tn ty e : TypeId) (i : TypeInfo) (kn : IntKind) (ht : P.underlying t = some (.slice e)) (htn : P.underlying tn = some (.int kn)) (hi : P.info? e = some i) (hz : i.zero = some (.int .u8 0)) (hsize : i.size = 1) (hby : i.bytes = 1)
    (v : Value) (r : List UInt8) (B : Nat) (hown : Own e B w v r) (hB : B ≤ w.heap.size) (k : Nat) (hk : 0 < k) (hb : r.length + k ≤ 1000000) :
    ∃ v' w', (Builtin.append_ #[t, tn] ty #[v, .int .i64 k]).run P w = .ok v' w' ∧ Own e B w' v' (r ++ List.replicate k 0) ∧ w.grownBy w' v.ownBlock := by
  rcases hown.2 with ⟨rfl, h0⟩ | ⟨g, cap, cur, rfl, e2, hg, e3, e4, e5, e6⟩
  · have : r = [] := List.length_eq_zero_iff.1 h0
    subst this
    have hr := Lib.run_append_nil_zeros w t tn ty e i (.int .u8 0) .i64 kn ht htn hi hz k hk (by omega) (by simp at hb; omega) (by rw [hby]; simp at hb; omega)
    rw [show (Value.int IntKind.u8 0).cells = #[.int .u8 0] from rfl, zeroCells_one, zeroCells_one] at hr
    refine ⟨_, _, hr, ?_, ?_⟩
    · have hc := grownCap_ge w k 0 e
      have hc2 := grownCap_le_maxLen w k 0 e (by unfold maxLen; simp at hb; omega)
      refine ⟨by simp [U], .inr ⟨w.heap.size, _, (U (List.replicate k 0)).toArray ++ (U (List.replicate (grownCap w k 0 e - k) 0)).toArray, ?_, hB, ?_, ?_, hc2, ?_, ?_⟩⟩
      · simp
      · exact heap_alloc_new w.drew _
      · simpa using hc
      · simp [U]; omega
      · simp [U]
    · exact ⟨rfl, rfl, rfl, by simp, fun b hb' _ => heap_alloc_old w.drew _ hb'⟩
  · have hcl : cur.toList.length = cap := by rw [Array.length_toList, e5, Nat.mul_one]
    have hold : cur.toList.take r.length = U r := by rw [Nat.mul_one] at e6; exact e6
    by_cases hroom : r.length + k ≤ cap
    · have hw : IntKind.i64.wrap (k : Int) = k := by rw [IntKind.wrap_i64]; omega
      have hst := run_storeCells_at (P := P) g r.length e (U (List.replicate k 0)) 0 cur w hg (by simp [U]; omega) (U_one _)
      simp only [Nat.add_zero] at hst
      have hns : ¬ (k * i.size = 0) := by rw [hsize]; omega
      have h48i : ¬ (281474976710656 < (k : Int) * (i.bytes : Int)) := by rw [hby]; omega
      have hneg : ¬ ((k : Int) < 0) := by omega
      have hk0 : k ≠ 0 := by omega
      have hr : (Builtin.append_ #[t, tn] ty #[.slice (some ⟨g, 0, none⟩) r.length cap, .int .i64 k]).run P w = .ok (.slice (some ⟨g, 0, none⟩) (r.length + k) cap) (w.setRow g (cur.toList.take r.length ++ U (List.replicate k 0) ++ cur.toList.drop (r.length + (U (List.replicate k 0)).length)).toArray) := by
        simp [Builtin.append_, run_underlying ht, run_underlying htn, sizeOf, typeInfo, zeroValue, hi, hz, asInt, asIntOf, hw, hneg, hk0, h48i, hroom, hsize, Addr.add_lit, show (Value.int IntKind.u8 0).cells = #[.int .u8 0] from rfl, zeroCells_one, hst]
      refine ⟨_, _, hr, ?_, ?_⟩
      · refine ⟨by simp [U], .inr ⟨g, cap, _, by simp, e2, setRow_heap w g cur _ e _ hg, by simpa using hroom, e4, ?_, ?_⟩⟩
        · simp [U]; omega
        · rw [hold, Nat.mul_one, List.length_append, List.length_replicate, U_append, List.toList_toArray]
          rw [List.take_append_of_le_length (by simp [U]), List.take_of_length_le (by simp [U])]
      · exact ⟨rfl, rfl, rfl, by simp [World.setRow], fun b _ hne => setRow_other w g b _ (fun h => hne (by rw [h]; rfl))⟩
    · have hf : (Builtin.firstCells i.size r.length (.slice (some ⟨g, 0, none⟩) r.length cap)).run P w.drew = .ok (U r).toArray w.drew := by
        have := run_loadCells_list (P := P) w.drew ⟨g, 0, none⟩ (U r) (fun j u hj => by
          rw [Addr.add_lit, Nat.zero_add]
          have hB1 : w.heap[g]? = some (.cells cur e (0, 0)) := hg
          show w.cell? ⟨g, j, none⟩ = _
          rw [cell_of_row w g j _ e (0, 0) hB1, ← Array.getElem?_toList]
          have hjl : j < r.length := by have := (List.getElem?_eq_some_iff.1 hj).1; rwa [U_length] at this
          rw [← hold, List.getElem?_take, if_pos hjl] at hj
          exact hj)
        rw [U_length] at this
        simp only [Builtin.firstCells, hsize, Nat.mul_one]
        exact this
      have hr := Lib.run_append_grow_zeros w t tn ty e i (.int .u8 0) .i64 kn ht htn hi hz (some ⟨g, 0, none⟩) r.length cap (U r) hf k hk (by omega) (by omega) (by omega) (by rw [hby]; omega) (by rw [hby]; have := nextslicecap_le (need := r.length + k) (old := cap) (by omega); omega)
      rw [show (Value.int IntKind.u8 0).cells = #[.int .u8 0] from rfl, zeroCells_one, zeroCells_one] at hr
      refine ⟨_, _, hr, ?_, ?_⟩
      · have hc := grownCap_ge w (r.length + k) cap e
        have hc2 := grownCap_le_maxLen w (r.length + k) cap e (by unfold maxLen; omega)
        refine ⟨by simp [U], .inr ⟨w.heap.size, _, _, by simp, hB, heap_alloc_new w.drew _, by simpa using hc, hc2, ?_, ?_⟩⟩
        · simp [U]; omega
        · rw [Nat.mul_one, List.length_append, List.length_replicate, U_append]
          simp only [Array.toList_append]
          rw [List.take_append_of_le_length (by simp [U]), List.take_of_length_le (by simp [U])]
      · exact ⟨rfl, rfl, rfl, by simp, fun b hb' _ => heap_alloc_old w.drew _ hb'⟩

theorem zeros_none {P : Program} (w : World) (t tn ty e : TypeId) (i : TypeInfo) (kn : IntKind) (ht : P.underlying t = some (.slice e)) (htn : P.underlying tn = some (.int kn)) (hi : P.info? e = some i)
    (v : Value) (r : List UInt8) (B : Nat) (hown : Own e B w v r) : (Builtin.append_ #[t, tn] ty #[v, .int .i64 0]).run P w = .ok v w := by
  have hw : IntKind.i64.wrap 0 = 0 := by rw [IntKind.wrap_i64]; rfl
  rcases hown.2 with ⟨rfl, h0⟩ | ⟨g, cap, cur, rfl, e2, hg, e3, e4, e5, e6⟩
  · simp [Builtin.append_, run_underlying ht, run_underlying htn, sizeOf, typeInfo, hi, asInt, asIntOf, hw]
  · simp [Builtin.append_, run_underlying ht, run_underlying htn, sizeOf, typeInfo, hi, asInt, asIntOf, hw, e3, storeCells]

/-- 'append(v, make([]byte, k)...)' of what the call owns, as the walk takes it -/
theorem wpList_zeros {P : Program} (w : World) {ops : Array Oper} {rest : List Oper} {o : Oper} {a : Act} {Q : Exit → Act → World → Prop} (hgd : o.guard = none) (s x : Operand) (t tn e : TypeId) (i : TypeInfo) (kn : IntKind)
    (ho : o.op = .call { callee := .builtin .append, args := #[s, x], argTypes := #[t, tn] }) (ht : P.underlying t = some (.slice e)) (htn : P.underlying tn = some (.int kn)) (hi : P.info? e = some i) (hz : i.zero = some (.int .u8 0)) (hsize : i.size = 1) (hby : i.bytes = 1)
    (v : Value) (r : List UInt8) (B : Nat) (hs : a.eval s = v) (hown : Own e B w v r) (hB : B ≤ w.heap.size) (k : Nat) (hx : a.eval x = .int .i64 (k : Int)) (hb : r.length + k ≤ 1000000)
    (h : ∀ v' w', Hid (Own e B w' v' (r ++ List.replicate k 0)) → Hid (w.grownBy w' v.ownBlock) → wpList P ops Q rest (a.put o.dst v') w') : wpList P ops Q (o :: rest) a w := by
  refine wpList_plain hgd fun K hK => ?_
  rcases Nat.eq_zero_or_pos k with rfl | hk
  · have hrun := zeros_none (P := P) w t tn o.type e i kn ht htn hi v r B hown
    have hh := h v w (by show Own _ _ _ _ _; simpa using hown) (World.grownBy.refl _ _)
    unfold Oper.wp
    simp [execOp, ho, resolve, invoke, builtin, hs, hx, hrun, Result.andThen]
    exact hK _ _ hh
  · obtain ⟨v', w', hrun, h1, h2⟩ := zeros_own (P := P) w t tn o.type e i kn ht htn hi hz hsize hby v r B hown hB k hk hb
    unfold Oper.wp
    simp [execOp, ho, resolve, invoke, builtin, hs, hx, hrun, Result.andThen]
    exact hK _ _ (h v' w' h1 h2)
#print axioms wpList_zeros
end Go.Proofs.YtchblcfbllcbmaaDoor.Oct
