/-
  Layer 11 (lines): rows of cells; numbers of vertices.
-/
import Derived.Test.YtjcihaohpbmogaaRsg
namespace Go.Proofs.Ytjcihaohpbmogaa.Oct
open Go.RowKit
set_option maxRecDepth 100000
set_option linter.unusedSimpArgs false
set_option linter.unusedVariables false
set_option linter.unusedSectionVars false

/-- a row of cells of a type that can be read -/
def CR (w : World) (t : TypeId) (a : Option Addr) (n : Nat) (cs : List Value) : Prop :=
  cs.length = n ∧ (0 < n → ∃ g off, a = some ⟨g, off, none⟩ ∧ (∃ C f, w.heap[g]? = some (.cells C t f)) ∧ ∀ i v, cs[i]? = some v → w.cell? ⟨g, off + i, none⟩ = some v)
/-- one of the call's own -/
def OC (B : Nat) (w : World) (t : TypeId) (v : Value) (n : Nat) (cs : List Value) : Prop := w.ownsRow B t 1 v n cs ∧ ∀ u ∈ cs, u.oneCell' = true
section
variable {w w' : World} {t : TypeId} {a : Option Addr} {n B : Nat} {v : Value} {cs : List Value}
theorem CR.nil (w : World) (t : TypeId) (a : Option Addr) : CR w t a 0 [] := ⟨rfl, fun h => absurd h (by omega)⟩
theorem CR.same (h : CR w t a n cs) (hs : ∀ g off, a = some ⟨g, off, none⟩ → (∃ C f, w.heap[g]? = some (.cells C t f)) → w'.heap[g]? = w.heap[g]?) : CR w' t a n cs := by
  refine ⟨h.1, fun hp => ?_⟩
  obtain ⟨g, off, e, h1, h2⟩ := h.2 hp
  have h3 := hs g off e h1
  exact ⟨g, off, e, by rw [h3]; exact h1, fun i v hi => (cell_same h3).trans (h2 i v hi)⟩
theorem CR.below (h : CR w t a n cs) (hb : Below w.heap.size w w') : CR w' t a n cs := h.same fun g off _ ⟨C, f, h1⟩ => hb.block g (Array.getElem?_eq_some_iff.1 h1).1
/-- what is written lies in a block of another type -/
theorem CR.grown {row : Option Nat} (h : CR w t a n cs) (hg : w.grownBy w' row) (hne : ∀ g C f, row = some g → w.heap[g]? ≠ some (.cells C t f)) : CR w' t a n cs :=
  h.same fun g off _ ⟨C, f, h1⟩ => hg.block g (Array.getElem?_eq_some_iff.1 h1).1 (fun e => hne g C f e.symm h1)
theorem OC.blk (h : OC B w t v n cs) {g : Nat} (hg : v.ownBlock = some g) : B ≤ g ∧ ∃ C, w.heap[g]? = some (.cells C t (0, 0)) := by
  rcases h.1.2 with ⟨rfl, _⟩ | ⟨g', cap, cur, rfl, h1, h2, _⟩
  · cases hg
  · cases hg
    exact ⟨h1, cur, h2⟩
theorem OC.len (h : OC B w t v n cs) : cs.length = n := by have := h.1.1; omega
theorem OC.read (h : OC B w t v n cs) : ∃ a c, v = .slice a n c ∧ CR w t a n cs ∧ n ≤ c := by
  have hl := h.len
  rcases h.1.2 with ⟨rfl, rfl⟩ | ⟨g, cap, cur, rfl, h1, h2, h3, h4, h5, h6⟩
  · exact ⟨none, 0, rfl, ⟨hl, fun h => absurd h (by omega)⟩, Nat.le_refl _⟩
  · refine ⟨some ⟨g, 0, none⟩, cap, rfl, ⟨hl, fun _ => ⟨g, 0, rfl, ⟨cur, _, h2⟩, fun i u hi => ?_⟩⟩, h3⟩
    have := h.1.cells (g := g) rfl i u hi
    rw [Addr.add_lit] at this
    exact this
theorem OC.same (h : OC B w t v n cs) (hs : ∀ g, v.ownBlock = some g → w'.heap[g]? = w.heap[g]?) : OC B w' t v n cs := by
  refine ⟨⟨h.1.1, ?_⟩, h.2⟩
  rcases h.1.2 with h1 | ⟨g, cap, cur, h1, h2, h3, h4⟩
  · exact .inl h1
  · exact .inr ⟨g, cap, cur, h1, h2, (hs g (by rw [h1]; rfl)).trans h3, h4⟩
theorem OC.below (h : OC B w t v n cs) (hb : Below w.heap.size w w') : OC B w' t v n cs := h.same fun g hg => by
  obtain ⟨_, C, h1⟩ := h.blk hg
  exact hb.block g (Array.getElem?_eq_some_iff.1 h1).1
theorem OC.grown {row : Option Nat} (h : OC B w t v n cs) (hg : w.grownBy w' row) (hne : ∀ g C f, row = some g → w.heap[g]? ≠ some (.cells C t f)) : OC B w' t v n cs := h.same fun g hgv => by
  obtain ⟨_, C, h1⟩ := h.blk hgv
  exact hg.block g (Array.getElem?_eq_some_iff.1 h1).1 (fun e => hne g C _ e.symm h1)
theorem OC.nil (B : Nat) (w : World) (t : TypeId) : OC B w t (.slice none 0 0) 0 [] := ⟨⟨rfl, .inl ⟨rfl, rfl⟩⟩, by simp⟩
theorem OC.lo {B' : Nat} (h : OC B w t v n cs) (hB : B' ≤ B) : OC B' w t v n cs := by
  refine ⟨⟨h.1.1, ?_⟩, h.2⟩
  rcases h.1.2 with h1 | ⟨g, cap, cur, h1, h2, h3⟩
  · exact .inl h1
  · exact .inr ⟨g, cap, cur, h1, by omega, h3⟩
end
/-- one cell more -/
structure One (T e by_ : Nat) : Prop where
  un : Try.prog.underlying T = some (.slice e)
  inf : ∃ i z, Try.prog.info? e = some i ∧ i.zero = some z ∧ i.size = 1 ∧ i.bytes = by_ ∧ z.cells.size = 1
  le : by_ ≤ 64
theorem inf_of {e b : Nat} (h : (Try.prog.info? e).map (fun i => (i.size, i.bytes, i.zero.map (·.cells.size))) = some (1, b, some 1)) : ∃ i z, Try.prog.info? e = some i ∧ i.zero = some z ∧ i.size = 1 ∧ i.bytes = b ∧ z.cells.size = 1 := by
  obtain ⟨i, hi, he⟩ := Option.map_eq_some_iff.1 h
  simp only [Prod.mk.injEq] at he
  obtain ⟨z, hz, hz2⟩ := Option.map_eq_some_iff.1 he.2.2
  exact ⟨i, z, hi, hz, he.1, he.2.1, hz2⟩
theorem one77 : One 77 71 8 := ⟨Try.underlying77, inf_of (by kernel_rfl), by omega⟩
theorem one78 : One 78 82 24 := ⟨Try.underlying78, inf_of (by kernel_rfl), by omega⟩
theorem one82 : One 82 3 8 := ⟨Try.underlying82, inf_of (by kernel_rfl), by omega⟩
theorem bs71 (p : Option Addr) (W : World) : (Instr.buildSlice 77 1 #[(0, .pointer p)]).run Try.prog W = .ok (.slice (some ⟨W.heap.size, 0, none⟩) 1 1) (W.alloc (.cells [Value.pointer p].toArray 71)) := by kernel_rfl
theorem bs82s (a : Option Addr) (n c : Nat) (W : World) : (Instr.buildSlice 78 1 #[(0, .slice a n c)]).run Try.prog W = .ok (.slice (some ⟨W.heap.size, 0, none⟩) 1 1) (W.alloc (.cells [Value.slice a n c].toArray 82)) := by kernel_rfl
theorem bs3 (x : Int) (W : World) : (Instr.buildSlice 82 1 #[(0, iv x)]).run Try.prog W = .ok (.slice (some ⟨W.heap.size, 0, none⟩) 1 1) (W.alloc (.cells [iv x].toArray 3)) := by kernel_rfl
section
variable {ops : Array Oper} {rest : List Oper} {o : Oper} {a : Act} {w : World} {Q : Exit → Act → World → Prop}
theorem wpList_bs (hg : o.guard = none) (T : TypeId) (x : Operand) (hop : o.op = Op.buildSlice T 1 #[(0, x)]) (u r : Value) (hx : a.eval x = u) (W' : World) (hr : (Instr.buildSlice T 1 #[(0, u)]).run Try.prog w = .ok r W')
    (hK : wpList Try.prog ops Q rest (a.put o.dst r) W') : wpList Try.prog ops Q (o :: rest) a w := by
  refine wpList_plain hg fun K' hK' => ?_
  unfold Oper.wp execOp
  simp only [hop, List.map_toArray, List.map_cons, List.map_nil, hx, Sem.run_bind, Sem.run_pure, Result.andThen_ok, hr]
  exact hK' _ _ hK
/-- append of one cell that was laid right ahead -/
theorem wpList_appc (hg : o.guard = none) {T e b : Nat} (h1 : One T e b) (s x : Operand) (hop : o.op = Op.call { callee := Callee.builtin Builtin.append, args := #[s, x], argTypes := #[T, T] }) (B : Nat) (v : Value) (n : Nat) (cs : List Value) (z : Nat) (u : Value) (hv : a.eval s = v) (hx : a.eval x = .slice (some ⟨z, 0, none⟩) 1 1)
    (hown : OC B w e v n cs) (hz : Blk w z e [u]) (hu : u.oneCell' = true) (hn : n ≤ 100000) (hB : B ≤ w.heap.size)
    (hK : ∀ v' w', OC B w' e v' (n + 1) (cs ++ [u]) → w.grownBy w' v.ownBlock → (∀ g, v.ownBlock = some g → B ≤ g ∧ ∃ C, w.heap[g]? = some (.cells C e (0, 0))) → wpList Try.prog ops Q rest (a.put o.dst v') w') : wpList Try.prog ops Q (o :: rest) a w := by
  refine wpList_plain hg fun K' hK' => ?_
  obtain ⟨i, zr, k0, k1, k2, k3, k4⟩ := h1.inf
  have hle := h1.le
  obtain ⟨v', W', hr, h2, h3, _⟩ := run_append_own_at (P := Try.prog) (w := w) B T o.type e i zr 1 b h1.un k0 k1 k2 k3 k4 (by omega) v n cs hown.1 ⟨z, 0, none⟩ 1 1 [u] rfl (fun j y hy => by
    rw [Addr.add_lit, Nat.zero_add]
    exact hz.cell hy) (by simpa using hu) (by unfold maxLen; omega) (by
      have : (n + 1) * b ≤ 100001 * 64 := Nat.mul_le_mul (by omega) hle
      omega) hB
  unfold Oper.wp execOp
  simp only [hop, resolve, invoke, builtin, Sem.run_bind, Sem.run_pure, Result.andThen_ok, List.map_toArray, List.map_cons, List.map_nil, hv, hx, hr]
  refine hK' _ _ (hK v' W' ⟨h2, fun y hy => ?_⟩ h3 (fun g hg => hown.blk hg))
  rcases List.mem_append.1 hy with h | h
  · exact hown.2 y h
  · rw [List.mem_singleton.1 h]; exact hu
end
#print axioms wpList_appc
/-- the numbers of vertices -/
def numKv (vs : List Vx) : Kv Vx := vs.zipIdx.map fun x => (x.1, iv (x.2 : Int))
theorem numKv_take {vs : List Vx} (hn : vs.Nodup) {i : Nat} {v : Vx} (hi : vs[i]? = some v) : kput (numKv (vs.take i)) v (iv (i : Int)) = numKv (vs.take (i + 1)) := by
  have hlt := (List.getElem?_eq_some_iff.1 hi).1
  have hno : (numKv (vs.take i)).find? (fun x => x.1 == v) = none := by
    rw [List.find?_eq_none]
    intro x hx
    unfold numKv at hx
    obtain ⟨y, hy, rfl⟩ := List.mem_map.1 hx
    have hm : y.1 ∈ vs.take i := by
      have : y.1 ∈ (List.zipIdx (vs.take i)).map Prod.fst := List.mem_map.2 ⟨y, hy, rfl⟩
      rwa [List.zipIdx_map_fst] at this
    obtain ⟨j, hj⟩ := List.getElem?_of_mem hm
    rw [List.getElem?_take] at hj
    split at hj
    · rename_i hji
      have hne : y.1 ≠ v := fun e => by
        rw [e] at hj
        have := (List.getElem?_inj (by omega) hn).1 (hj.trans hi.symm)
        omega
      simpa using hne
    · cases hj
  unfold kput khas kget
  rw [hno]
  show numKv (vs.take i) ++ [(v, iv (i : Int))] = _
  unfold numKv
  rw [List.take_add_one, hi, List.zipIdx_append, List.map_append]
  simp [Nat.min_eq_left (Nat.le_of_lt hlt)]
theorem find_num (u : Vx) : ∀ (vs : List Vx) (k : Nat), ((vs.zipIdx k).map fun x => (x.1, iv (x.2 : Int))).find? (fun x => x.1 == u) = if u ∈ vs then some (u, iv ((k + vs.idxOf u : Nat) : Int)) else none
  | [], k => by simp
  | v :: vs, k => by
    rw [List.zipIdx_cons, List.map_cons, List.find?_cons]
    by_cases h : v = u
    · subst h
      simp
    · have h1 : (v == u) = false := by simpa using h
      simp only [h1]
      rw [find_num u vs (k + 1), List.idxOf_cons, h1]
      by_cases hm : u ∈ vs
      · rw [if_pos hm, if_pos (by simp [hm])]
        congr 4
        simp; omega
      · rw [if_neg hm, if_neg (by
          intro h2
          rcases List.mem_cons.1 h2 with e | e
          · exact h e.symm
          · exact hm e)]
theorem khas_num (vs : List Vx) (u : Vx) : khas (numKv vs) u = decide (u ∈ vs) := by
  unfold khas kget numKv
  rw [find_num]
  by_cases h : u ∈ vs <;> simp [h]
theorem kget_num (vs : List Vx) (u : Vx) (h : u ∈ vs) : (kget (numKv vs) u).getD (iv 0) = iv (vs.idxOf u : Int) := by
  unfold kget numKv
  rw [find_num, if_pos h]
  simp
/-- the numbers of those from which steps lead, as far as they are lines -/
def fln (vs fr : List Vx) : List Nat := fr.filterMap fun u => if u ∈ vs then some (vs.idxOf u) else none
theorem fln_take (vs fr : List Vx) (j : Nat) (u : Vx) (h : fr[j]? = some u) : fln vs (fr.take (j + 1)) = fln vs (fr.take j) ++ (if u ∈ vs then [vs.idxOf u] else []) := by
  unfold fln
  rw [List.take_add_one, h, List.filterMap_append]
  congr 1
  by_cases hu : u ∈ vs <;> simp [hu]
def ivs (l : List Nat) : List Value := l.map fun (k : Nat) => iv (k : Int)
theorem zero3 (W : World) : (zeroValue 3).run Try.prog W = .ok (iv 0) W := by kernel_rfl
#print axioms numKv_take
end Go.Proofs.Ytjcihaohpbmogaa.Oct
