/-
  Layer 11 (lines): rows of numbers: made, written to, cut.
-/
import Derived.Test.YtjcihaohpbmogaaOnu
import Derived.Test.YtjcihaohpbmogaaShd
import Derived.Laws.OwnMore
namespace Go.Proofs.Ytjcihaohpbmogaa.Oct
open Go.RowKit Go.Shelf Go.Lib Go.Sort
set_option maxRecDepth 100000
set_option linter.unusedSimpArgs false
set_option linter.unusedVariables false
set_option linter.unusedSectionVars false

theorem ivs_len (ns : List Nat) : (ivs ns).length = ns.length := by simp [ivs]
theorem ivs_one (ns : List Nat) : ∀ u ∈ ivs ns, u.oneCell' = true := by
  intro u hu
  obtain ⟨k, _, rfl⟩ := List.mem_map.1 hu
  rfl
theorem OC.out {w : World} {B : Nat} {t : TypeId} {g n cap : Nat} {cs : List Value} (h : OC B w t (.slice (some ⟨g, 0, none⟩) n cap) n cs) : ∃ L, Blk w g t L ∧ L.take n = cs ∧ L.length = cap ∧ n ≤ cap ∧ cap ≤ maxLen ∧ B ≤ g := by
  rcases h.1.2 with ⟨h1, _⟩ | ⟨g', cap', cur, h1, h2, h3, h4, h5, h6, h7⟩
  · cases h1
  · cases h1
    exact ⟨cur.toList, by simpa [Blk] using h3, by simpa using h7, by simpa using h6, h4, h5, h2⟩
theorem OC.of {w : World} {B : Nat} {t : TypeId} {g n cap : Nat} {cs L : List Value} (hb : Blk w g t L) (ht : L.take n = cs) (hl : L.length = cap) (hn : n ≤ cap) (hm : cap ≤ maxLen) (hB : B ≤ g) (h1 : ∀ u ∈ cs, u.oneCell' = true) : OC B w t (.slice (some ⟨g, 0, none⟩) n cap) n cs :=
  ⟨⟨by rw [← ht, List.length_take]; omega, .inr ⟨g, cap, L.toArray, rfl, hB, hb, hn, hm, by simp [hl], by simpa using ht⟩⟩, h1⟩
/-- a cell of a row written -/
theorem OC.set {w w' : World} {B : Nat} {t : TypeId} {g n cap i : Nat} {cs L : List Value} {u : Value} (h : OC B w t (.slice (some ⟨g, 0, none⟩) n cap) n cs) (hL : Blk w g t L) (hb : Blk w' g t (L.set i u)) (hi : i < n) (hu : u.oneCell' = true) : OC B w' t (.slice (some ⟨g, 0, none⟩) n cap) n (cs.set i u) := by
  obtain ⟨L2, a1, a2, a3, a4, a5, a6⟩ := h.out
  have e : L2 = L := by
    have := a1.symm.trans hL
    simpa [Blk] using this
  subst e
  refine OC.of hb (by rw [← a2, List.take_set]) (by simpa using a3) a4 a5 a6 ?_
  intro x hx
  rcases List.mem_or_eq_of_mem_set hx with h1 | h1
  · exact h.2 x h1
  · rw [h1]; exact hu
section
variable {ops : Array Oper} {rest : List Oper} {o : Oper} {a : Act} {w : World} {Q : Exit → Act → World → Prop}
theorem wpList_strow (hg : o.guard = none) (ty : TypeId) (x y : Operand) (ho : o.op = .store ty x y) (hi : (Try.prog.info? ty).map (·.size) = some 1) {B : Nat} {t : TypeId} {g n cap i : Nat} {cs : List Value} {u : Value} (hu : u.oneCell' = true) (huc : u.cells = #[u]) (hx : a.eval x = .pointer (some ⟨g, i, none⟩)) (hy : a.eval y = u)
    (h : OC B w t (.slice (some ⟨g, 0, none⟩) n cap) n cs) (hin : i < n) (hK : ∀ w', OC B w' t (.slice (some ⟨g, 0, none⟩) n cap) n (cs.set i u) → w.grownBy w' (some g) → wpList Try.prog ops Q rest (a.put o.dst undef) w') : wpList Try.prog ops Q (o :: rest) a w := by
  obtain ⟨L, a1, a2, a3, a4, _, _⟩ := h.out
  refine wpList_stc hg ty x y ho hi hu huc hx hy a1 (i := i) (u := L[i]'(by omega)) (List.getElem?_eq_getElem (by omega)) ?_
  intro w' h1 h2
  exact hK w' (h.set a1 h1 hin hu) h2
theorem wpList_mkfull (hg : o.guard = none) {T e b : Nat} (h1 : One T e b) (l c : Operand) (hop : o.op = Op.makeSlice T l c) (B n : Nat) (z : Value) (hz : (Try.prog.info? e).map (·.zero) = some (some z)) (hzc : z.cells = #[z]) (hz1 : z.oneCell' = true) (hl : a.eval l = iv (n : Int)) (hc : a.eval c = iv (n : Int)) (hn : n ≤ 1000000) (hB : B ≤ w.heap.size)
    (hK : ∀ w', OC B w' e (.slice (some ⟨w.heap.size, 0, none⟩) n n) n (List.replicate n z) → Below w.heap.size w w' → wpList Try.prog ops Q rest (a.put o.dst (.slice (some ⟨w.heap.size, 0, none⟩) n n)) w') : wpList Try.prog ops Q (o :: rest) a w := by
  refine wpList_plain hg fun K' hK' => ?_
  obtain ⟨i, zr, k0, k1, k2, k3, k4⟩ := h1.inf
  have hle := h1.le
  have ez : zr = z := by
    rw [k0] at hz
    simp only [Option.map_some, Option.some.injEq, k1] at hz
    exact hz
  subst ez
  obtain ⟨w', hrun, r1, r2⟩ := run_make_full (P := Try.prog) w B T e i zr 1 h1.un k0 k1 k2 .i64 .i64 n (by
    have : i.bytes * n ≤ 64 * 1000000 := Nat.mul_le_mul (by omega) hn
    omega) (by unfold maxLen; omega) hB
  have em : (madeCells zr.cells (n * 1)).toList = List.replicate n zr := by
    rw [Nat.mul_one]
    apply List.ext_getElem?
    intro j
    by_cases hj : j < n
    · simp [madeCells, hj, hzc, List.getElem?_replicate, Nat.mod_one]
    · simp [madeCells, hj, List.getElem?_replicate]
  rw [em] at r1
  unfold Oper.wp execOp
  simp [hop, hl, hc, hrun, Result.andThen]
  refine hK' _ _ (hK w' ⟨r1, fun u hu => ?_⟩ ⟨r2.os, r2.tape, r2.output, r2.size, fun k hk => r2.block k hk (by simp)⟩)
  rw [(List.mem_replicate.1 hu).2]
  exact hz1
theorem wpList_mk0 (hg : o.guard = none) {T e b : Nat} (h1 : One T e b) (l c : Operand) (hop : o.op = Op.makeSlice T l c) (B n : Nat) (hl : a.eval l = iv 0) (hc : a.eval c = iv (n : Int)) (hn : n ≤ 1000000) (hB : B ≤ w.heap.size)
    (hK : ∀ w', OC B w' e (.slice (some ⟨w.heap.size, 0, none⟩) 0 n) 0 [] → Below w.heap.size w w' → wpList Try.prog ops Q rest (a.put o.dst (.slice (some ⟨w.heap.size, 0, none⟩) 0 n)) w') : wpList Try.prog ops Q (o :: rest) a w := by
  refine wpList_plain hg fun K' hK' => ?_
  obtain ⟨i, zr, k0, k1, k2, k3, k4⟩ := h1.inf
  have hle := h1.le
  obtain ⟨w', hrun, r1, r2⟩ := run_make_own (P := Try.prog) w B T e i zr 1 h1.un k0 k1 k2 .i64 .i64 n (by
    have : i.bytes * n ≤ 64 * 1000000 := Nat.mul_le_mul (by omega) hn
    omega) (by unfold maxLen; omega) hB
  unfold Oper.wp execOp
  simp [hop, hl, hc, hrun, Result.andThen]
  exact hK' _ _ (hK w' ⟨r1, by simp⟩ ⟨r2.os, r2.tape, r2.output, r2.size, fun k hk => r2.block k hk (by simp)⟩)
end
theorem one119 : One 119 4 1 := ⟨Try.underlying119, inf_of (by kernel_rfl), by omega⟩
#print axioms wpList_mkfull
theorem holds_iv {w : World} {g : Nat} {L : List Value} {ns : List Nat} (hb : Blk w g 3 L) (ht : L.take ns.length = ivs ns) : Holds (Value.int .i64) w g 0 (ns.map (fun (n : Nat) => (n : Int))).toArray := by
  intro j hj
  have hj' : j < ns.length := by simpa using hj
  have hc : L[j]? = some (iv (ns[j] : Int)) := by
    have : (ivs ns)[j]? = some (iv (ns[j] : Int)) := by simp [ivs, List.getElem?_eq_getElem hj']
    rw [← ht, List.getElem?_take_of_lt hj'] at this
    exact this
  refine ⟨?_, by rw [Nat.zero_add]; exact hb.free j⟩
  rw [Nat.zero_add, hb.cell hc, getElem!_pos _ j hj]
  simp
set_option maxHeartbeats 1000000 in
theorem del_is (w : World) (B g cap j : Nat) (ns : List Nat) (ho : OC B w 3 (.slice (some ⟨g, 0, none⟩) ns.length cap) ns.length (ivs ns)) (hj : j < ns.length) :
    Calls Try.prog 71 #[.slice (some ⟨g, 0, none⟩) ns.length cap, iv (j : Int), iv ((j : Int) + 1)] w fun e w' => e = .returned (.slice (some ⟨g, 0, none⟩) (ns.length - 1) cap) ∧ Hid (OC B w' 3 (.slice (some ⟨g, 0, none⟩) (ns.length - 1) cap) (ns.length - 1) (ivs (ns.eraseIdx j))) ∧ Hid (w.grownBy w' (some g)) := by
  obtain ⟨L, h2, h3, h4, h5, h6, h7⟩ := ho.out
  have hH := holds_iv h2 h3
  have hc := Go.Proofs.Any.slices_Delete_int laysDel g 0 cap j (j + 1) (ns.map (fun (n : Nat) => (n : Int))) w hH (by simpa using h5) (by simpa [maxLen] using h6) (by omega) (by simp; omega)
  simp only [List.length_map] at hc
  rw [show ((j + 1 : Nat) : Int) = (j : Int) + 1 by omega] at hc
  refine Calls.mono hc ?_
  rintro e w' ⟨rfl, q, rfl⟩
  have e1 : j + 1 - j = 1 := by omega
  refine ⟨by rw [e1], ?_, ?_⟩
  · have hb : Blk (putRow (Value.int .i64) (Go.Sort.ahead w q) g 0 ((ns.map (fun (n : Nat) => (n : Int))).take j ++ (ns.map (fun (n : Nat) => (n : Int))).drop (j + 1) ++ List.replicate (j + 1 - j) 0).toArray) g 3 (putCells (Value.int .i64) 0 ((ns.map (fun (n : Nat) => (n : Int))).take j ++ (ns.map (fun (n : Nat) => (n : Int))).drop (j + 1) ++ List.replicate (j + 1 - j) 0).toArray L.toArray).toList := by
      show _ = _
      simp [putRow, mapBlock, Array.getElem?_modify, show w.heap[g]? = _ from h2, onCells]
    refine OC.of hb ?_ (by simp [putCells, h4]) (by omega) h6 h7 (ivs_one _)
    have hel : (ns.eraseIdx j).length = ns.length - 1 := by rw [List.length_eraseIdx, if_pos hj]
    apply List.ext_getElem?
    intro i
    by_cases hi : i < ns.length - 1
    · have hl : i < L.length := by omega
      rw [List.getElem?_take_of_lt hi]
      have e2 : (ivs (ns.eraseIdx j))[i]? = some (iv (((ns.eraseIdx j)[i]'(by omega) : Nat) : Int)) := by simp [ivs, List.getElem?_eq_getElem (show i < (ns.eraseIdx j).length by omega)]
      rw [e2]
      have e3 : ((ns.map (fun (n : Nat) => (n : Int))).take j ++ (ns.map (fun (n : Nat) => (n : Int))).drop (j + 1))[i]? = some ((ns.eraseIdx j)[i]'(by omega) : Int) := by
        rw [← List.map_take, ← List.map_drop, ← List.map_append, ← List.eraseIdx_eq_take_drop_succ, List.getElem?_map, List.getElem?_eq_getElem (show i < (ns.eraseIdx j).length by omega)]
        rfl
      have hlen : ((ns.map (fun (n : Nat) => (n : Int))).take j ++ (ns.map (fun (n : Nat) => (n : Int))).drop (j + 1)).length = ns.length - 1 := by simp; omega
      have e4 : ((ns.map (fun (n : Nat) => (n : Int))).take j ++ (ns.map (fun (n : Nat) => (n : Int))).drop (j + 1) ++ List.replicate (j + 1 - j) 0)[i]? = some ((ns.eraseIdx j)[i]'(by omega) : Int) := by
        rw [List.getElem?_append_left (by omega)]; exact e3
      obtain ⟨D, hD⟩ : ∃ D, (ns.map (fun (n : Nat) => (n : Int))).take j ++ (ns.map (fun (n : Nat) => (n : Int))).drop (j + 1) ++ List.replicate (j + 1 - j) 0 = D := ⟨_, rfl⟩
      rw [hD] at e4 ⊢
      have hiD := (List.getElem?_eq_some_iff.1 e4).1
      have hxD := (List.getElem?_eq_some_iff.1 e4).2
      rw [Array.getElem?_toList]
      unfold putCells
      rw [Array.getElem?_mapIdx, List.getElem?_toArray, List.getElem?_eq_getElem hl]
      show some (if 0 ≤ i ∧ i < 0 + D.toArray.size then iv D.toArray[i - 0]! else L[i]) = _
      rw [if_pos ⟨Nat.zero_le _, by simpa using hiD⟩, Nat.sub_zero, getElem!_pos _ i (by simpa using hiD)]
      simp only [List.getElem_toArray, hxD]
    · rw [List.getElem?_eq_none (by simp; omega), List.getElem?_eq_none (by rw [ivs_len, hel]; omega)]
  · refine ⟨rfl, rfl, rfl, by simp, fun k hk hne => ?_⟩
    have hkg : g ≠ k := fun e => hne (by rw [e])
    simp [putRow, mapBlock, Array.getElem?_modify, hkg]
#print axioms del_is
end Go.Proofs.Ytjcihaohpbmogaa.Oct
