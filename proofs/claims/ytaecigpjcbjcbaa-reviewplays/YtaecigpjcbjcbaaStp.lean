/-
  Layer 20 (review): Propose: its drawn regions.
-/
import Derived.Test.YtaecigpjcbjcbaaIdx
namespace Go.Proofs.Ytaecigpjcbjcbaa.Oct
open Go.RowKit
set_option linter.unusedSimpArgs false
set_option linter.unusedVariables false

theorem uncons {α : Type} {n : Nat} {l : List α} (h : l.length = n + 1) : ∃ a t, l = a :: t ∧ t.length = n := by
  cases l with
  | nil => simp at h
  | cons a t => exact ⟨a, t, rfl, by simpa using h⟩
/-- a proposal as it is made -/
def Pr.new (author channel : BA) (patch : Hs) (mb : Nat) : Pr := ⟨author, channel, patch, mb, [], .slice none 0 0, []⟩
set_option maxRecDepth 100000 in
theorem run_build87 (author channel : BA) (h : Hs) (hl : h.length = 32) (mb : Nat) (W : World) : (Instr.build 87 #[(0, .string author), (1, .string channel), (2, .agg (U h).toArray), (3, .map (some mb))]).run Try.prog W = .ok (.agg (Pr.new author channel h mb).cells.toArray) W := by
  obtain ⟨a0, l0, rfl, h0⟩ := uncons hl
  obtain ⟨a1, l1, rfl, h1⟩ := uncons h0
  obtain ⟨a2, l2, rfl, h2⟩ := uncons h1
  obtain ⟨a3, l3, rfl, h3⟩ := uncons h2
  obtain ⟨a4, l4, rfl, h4⟩ := uncons h3
  obtain ⟨a5, l5, rfl, h5⟩ := uncons h4
  obtain ⟨a6, l6, rfl, h6⟩ := uncons h5
  obtain ⟨a7, l7, rfl, h7⟩ := uncons h6
  obtain ⟨a8, l8, rfl, h8⟩ := uncons h7
  obtain ⟨a9, l9, rfl, h9⟩ := uncons h8
  obtain ⟨a10, l10, rfl, h10⟩ := uncons h9
  obtain ⟨a11, l11, rfl, h11⟩ := uncons h10
  obtain ⟨a12, l12, rfl, h12⟩ := uncons h11
  obtain ⟨a13, l13, rfl, h13⟩ := uncons h12
  obtain ⟨a14, l14, rfl, h14⟩ := uncons h13
  obtain ⟨a15, l15, rfl, h15⟩ := uncons h14
  obtain ⟨a16, l16, rfl, h16⟩ := uncons h15
  obtain ⟨a17, l17, rfl, h17⟩ := uncons h16
  obtain ⟨a18, l18, rfl, h18⟩ := uncons h17
  obtain ⟨a19, l19, rfl, h19⟩ := uncons h18
  obtain ⟨a20, l20, rfl, h20⟩ := uncons h19
  obtain ⟨a21, l21, rfl, h21⟩ := uncons h20
  obtain ⟨a22, l22, rfl, h22⟩ := uncons h21
  obtain ⟨a23, l23, rfl, h23⟩ := uncons h22
  obtain ⟨a24, l24, rfl, h24⟩ := uncons h23
  obtain ⟨a25, l25, rfl, h25⟩ := uncons h24
  obtain ⟨a26, l26, rfl, h26⟩ := uncons h25
  obtain ⟨a27, l27, rfl, h27⟩ := uncons h26
  obtain ⟨a28, l28, rfl, h28⟩ := uncons h27
  obtain ⟨a29, l29, rfl, h29⟩ := uncons h28
  obtain ⟨a30, l30, rfl, h30⟩ := uncons h29
  obtain ⟨a31, l31, rfl, h31⟩ := uncons h30
  obtain rfl := List.eq_nil_of_length_eq_zero h31
  kernel_rfl
theorem fold_set : ∀ (cs : List Value) (k : Nat) (A : Array Value), A.size = k + cs.length → ((cs.zipIdx k).foldl (fun a x => a.setIfInBounds x.2 x.1) A).toList = A.toList.take k ++ cs
  | [], k, A, h => by
    rw [List.take_of_length_le (by simp at h ⊢; omega)]; simp
  | c :: cs, k, A, h => by
    rw [List.zipIdx_cons, List.foldl_cons, fold_set cs (k + 1) _ (by simp at h ⊢; omega)]
    have hk : k < A.toList.length := by simp at h ⊢; omega
    simp only [Array.toList_setIfInBounds]
    rw [List.take_succ_eq_append_getElem (by simpa using hk), List.take_set_of_le (Nat.le_refl _)]
    simp
/-- a type's size -/
def Sized (e n by_ : Nat) : Prop := ∃ i : TypeInfo, Try.prog.info? e = some i ∧ i.size = n ∧ i.bytes = by_ ∧ ∃ z, i.zero = some z ∧ z.cells.size = n
theorem sized_of {e n by_ : Nat} (h : (Try.prog.info? e).map (fun i => (i.size, i.bytes, i.zero.map (·.cells.size))) = some (n, by_, some n)) : Sized e n by_ := by
  obtain ⟨i, hi, he⟩ := Option.map_eq_some_iff.1 h
  simp only [Prod.mk.injEq] at he
  obtain ⟨z, hz, hz2⟩ := Option.map_eq_some_iff.1 he.2.2
  exact ⟨i, hi, he.1, he.2.1, z, hz, hz2⟩
theorem sized87 : Sized 87 36 96 := sized_of (by kernel_rfl)
theorem sized3 : Sized 3 1 8 := sized_of (by kernel_rfl)
theorem sized50 : Sized 50 2 32 := sized_of (by kernel_rfl)
theorem sized9 : Sized 9 1 16 := sized_of (by kernel_rfl)
theorem run_bslice {t e n by_ : Nat} (ht : Try.prog.underlying t = some (.slice e)) (hs : Sized e n by_) (hn : n ≤ 100) (cs : List Value) (hl : cs.length = n) (W : World) :
    (Instr.buildSlice t 1 #[(0, .agg cs.toArray)]).run Try.prog W = .ok (.slice (some ⟨W.heap.size, 0, none⟩) 1 1) (W.alloc (.cells cs.toArray e)) := by
  obtain ⟨i, hi, hs1, hby, z, hz, hzs⟩ := hs
  have e : ∀ A : Array Value, A.size = n → List.foldl (fun cs (x : Value × Nat) => cs.setIfInBounds x.2 x.1) A cs.zipIdx = cs.toArray := by
    intro A hA
    apply Array.toList_inj.1
    rw [fold_set cs 0 A (by rw [hl, hA]; omega)]
    simp
  simp [Instr.buildSlice, run_underlying ht, sizeOf, typeInfo, hi, hs1, zeroValue, hz, Instr.fill, Value.cells, hl, hzs, e]
  simp [newRow]
  omega
theorem run_make85 (W : World) : (Instr.makeMap 85 none).run Try.prog W = .ok (.map (some W.heap.size)) (W.alloc (.map #[] 0)) := by
  simp [Instr.makeMap]
section
variable {ops : Array Oper} {o : Oper} {a : Act} {w : World} {K : Act → World → Prop} {Q : Exit → Act → World → Prop} {E : Prop}
theorem step_mk (hw : Region.wanted o (yielded ops a.tmps) = true) (t : TypeId) (hop : o.op = .makeMap t none) (hrun : ∀ W, (Instr.makeMap t none).run Try.prog W = .ok (.map (some W.heap.size)) (W.alloc (.map #[] 0)))
    (hk : K (a.put o.dst (.map (some w.heap.size))) (w.alloc (.map #[] 0))) : if Region.wanted o (yielded ops a.tmps) = true then Oper.wp Try.prog o a w K Q else E := by
  rw [if_pos hw]
  unfold Oper.wp execOp
  simp [hop, hrun, Result.andThen]
  exact hk
theorem step_bs (hw : Region.wanted o (yielded ops a.tmps) = true) (t : TypeId) (x : Operand) (u : Value) (hop : o.op = .buildSlice t 1 #[(0, x)]) (hx : a.eval x = u) {v : Value} {w' : World} (hrun : (Instr.buildSlice t 1 #[(0, u)]).run Try.prog w = .ok v w')
    (hk : K (a.put o.dst v) w') : if Region.wanted o (yielded ops a.tmps) = true then Oper.wp Try.prog o a w K Q else E := by
  rw [if_pos hw]
  unfold Oper.wp execOp
  simp [hop, hx, hrun, Result.andThen]
  exact hk
theorem step_app (hw : Region.wanted o (yielded ops a.tmps) = true) (t e : TypeId) (n by_ : Nat) (s x : Operand) (hop : o.op = .call { callee := .builtin .append, args := #[s, x], argTypes := #[t, t] }) (ht : Try.prog.underlying t = some (.slice e)) (hs : Sized e n by_) (hby : by_ ≤ 1000) (hsz : 0 < n)
    (v : Value) (m : Nat) (cs : List Value) (h : Ow w e n v m cs) (g c : Nat) (qs : List Value) (hl : qs.length = n) (hq : w.rangeAt g 0 qs) (h1 : ∀ u ∈ qs, u.oneCell' = true) (hn : m + 1 ≤ 1000000) (hsv : a.eval s = v) (hx : a.eval x = .slice (some ⟨g, 0, none⟩) 1 c)
    (hk : ∀ v' w', Hid (Ow w' e n v' (m + 1) (cs ++ qs)) → Hid (w.grownBy w' v.ownBlock) → Hid (∃ g', v'.ownBlock = some g' ∧ (v.ownBlock = some g' ∨ g' = w.heap.size)) → K (a.put o.dst v') w') : if Region.wanted o (yielded ops a.tmps) = true then Oper.wp Try.prog o a w K Q else E := by
  obtain ⟨i, hi, hs1, hb, z, hz, hzs⟩ := hs
  rw [if_pos hw]
  obtain ⟨v', w', hr, h2, h3, h4⟩ := run_append_ow (P := Try.prog) w t o.type e i z n ht hi hz hs1 hzs hsz v m cs h g 0 1 c qs (by rw [hl]; omega) hq h1 hn (by omega) (by omega)
  unfold Oper.wp execOp
  simp only [hop, resolve, invoke, builtin, Sem.run_bind, Sem.run_pure, Result.andThen_ok, List.map_toArray, List.map_cons, List.map_nil, hsv, hx, hr]
  exact hk v' w' h2 h3 h4
theorem step_st (hw : Region.wanted o (yielded ops a.tmps) = true) (t : TypeId) (x y : Operand) (hop : o.op = .store t x y) (b k : Nat) (v : Value) (T : TypeId) (L : List Value) (hx : a.eval x = .pointer (some ⟨b, k, none⟩)) (hy : a.eval y = v) (hb : Blk w b T L) (hkl : k < L.length)
    (hi : (Try.prog.info? t).map (·.size) = some 1) (h1 : v.cells = #[v]) (h2 : v.oneCell' = true) (hk : K (a.put o.dst undef) (w.setCell ⟨b, k, none⟩ v)) : if Region.wanted o (yielded ops a.tmps) = true then Oper.wp Try.prog o a w K Q else E := by
  rw [if_pos hw]
  obtain ⟨i, hi2, hi3⟩ := Option.map_eq_some_iff.1 hi
  obtain ⟨u, hu⟩ : ∃ u, L[k]? = some u := ⟨_, List.getElem?_eq_getElem hkl⟩
  have hc := hb.cell hu
  have hf := hb.free k
  unfold Oper.wp execOp
  simp [hop, hx, hy, Instr.storeAt, Instr.sureAddr, storeVar, sizeOf, typeInfo, hi2, hi3, h1, storeCells, run_store _ _ _ _ _ h2, stored, hc, hf, Addr.add_lit, Result.andThen]
  exact hk
end
end Go.Proofs.Ytaecigpjcbjcbaa.Oct
