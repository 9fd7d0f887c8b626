/-
  Layer 21 (queue): small words; rows of the call's own; what is kept.
-/
import Derived.Test.YtipipckbcelphaaRow
import Derived.Test.YtipipckbcelphaaRows
import Derived.Maps.AppendAt
import Derived.BigQuiet
namespace Go.Proofs.Ytipipckbcelphaa.Oct
open Go.RowKit
set_option linter.unusedSimpArgs false

abbrev iv (n : Int) : Value := .int .i64 n
theorem len_max {n : Nat} (h : n ≤ 140737488355328) : n ≤ maxLen := by unfold maxLen; omega
theorem below_al (w : World) (o : Obj) : Below w.heap.size w (w.alloc o) := (Below.refl _ w).alloc (Nat.le_refl _) o
theorem below_tr {w w1 w2 : World} (h : Below w.heap.size w w1) (k : Below w1.heap.size w1 w2) : Below w.heap.size w w2 := h.trans (k.mono h.size)
/-- a row of the call's own -/
abbrev Ow (w : World) (e sz : Nat) (v : Value) (n : Nat) (cs : List Value) : Prop := w.ownsRow 0 e sz v n cs
theorem Ow.same {w w' : World} {e sz n : Nat} {v : Value} {cs : List Value} (h : Ow w e sz v n cs) (hs : ∀ g, v.ownBlock = some g → w'.heap[g]? = w.heap[g]?) : Ow w' e sz v n cs := by
  refine ⟨h.1, ?_⟩
  rcases h.2 with hn | ⟨g, cap, cur, rfl, hB, hb, hr⟩
  · exact .inl hn
  · exact .inr ⟨g, cap, cur, rfl, hB, (hs g rfl).trans hb, hr⟩
theorem Ow.lt {w : World} {e sz n : Nat} {v : Value} {cs : List Value} (h : Ow w e sz v n cs) {g : Nat} (hg : v.ownBlock = some g) : g < w.heap.size := by
  rcases h.2 with ⟨rfl, _⟩ | ⟨g', cap, cur, rfl, hB, hb, hr⟩
  · cases hg
  · cases hg; exact lt_of_block hb
theorem Ow.below {w w' : World} {e sz n : Nat} {v : Value} {cs : List Value} (h : Ow w e sz v n cs) (hb : Below w.heap.size w w') : Ow w' e sz v n cs := h.same fun g hg => hb.block g (h.lt hg)
theorem Ow.nil (w : World) (e sz : Nat) : Ow w e sz (.slice none 0 0) 0 [] := ⟨by simp, .inl ⟨rfl, rfl⟩⟩
/-- its parts -/
theorem Ow.read {w : World} {e sz n : Nat} {v : Value} {cs : List Value} (h : Ow w e sz v n cs) :
    ∃ a cap, v = .slice a n cap ∧ n ≤ cap ∧ cap ≤ maxLen ∧ cs.length = n * sz ∧ (0 < n → ∃ g, a = some ⟨g, 0, none⟩ ∧ v.ownBlock = some g ∧ g < w.heap.size ∧ w.rangeAt g 0 cs) := by
  rcases h.2 with ⟨rfl, rfl⟩ | ⟨g, cap, cur, rfl, hB, hb, hn, hc, hsz, ht⟩
  · exact ⟨none, 0, rfl, Nat.le_refl _, by unfold maxLen; omega, h.1, fun h => absurd h (by omega)⟩
  · refine ⟨_, cap, rfl, hn, hc, h.1, fun _ => ⟨g, rfl, rfl, lt_of_block hb, fun j u hu => ?_⟩⟩
    rw [Nat.zero_add, cell_of_row w g j _ e (0, 0) hb]
    rw [← ht, List.getElem?_take] at hu
    split at hu
    · simpa using hu
    · cases hu
/-- something appended: where the new row lies -/
theorem run_append_ow {P : Program} (w : World) (t ty e : TypeId) (i : TypeInfo) (z : Value) (sz : Nat) (ht : P.underlying t = some (.slice e)) (hi : P.info? e = some i) (hz : i.zero = some z) (hs : i.size = sz) (hzs : z.cells.size = sz) (hsz : 0 < sz)
    (v : Value) (n : Nat) (cs : List Value) (h : Ow w e sz v n cs) (g off m c : Nat) (qs : List Value) (hl : qs.length = m * sz) (hq : w.rangeAt g off qs) (h1 : ∀ u ∈ qs, u.oneCell' = true) (hn : n + m ≤ 4000000000000) (hm : 0 < m) (hby : i.bytes ≤ 24) :
    ∃ v' w', (Builtin.append_ #[t, t] ty #[v, .slice (some ⟨g, off, none⟩) m c]).run P w = .ok v' w' ∧ Ow w' e sz v' (n + m) (cs ++ qs) ∧ w.grownBy w' v.ownBlock ∧ ∃ g', v'.ownBlock = some g' ∧ (v.ownBlock = some g' ∨ g' = w.heap.size) := by
  have hb2 : (n + m) * i.bytes ≤ 140737488355328 := by
    refine Nat.le_trans (Nat.mul_le_mul hn hby) (by omega)
  obtain ⟨v', w', hr, h2, h3, h4, h5⟩ := run_append_own_at (P := P) w 0 t ty e i z sz i.bytes ht hi hz hs rfl hzs hsz v n cs h ⟨g, off, none⟩ m c qs hl (fun j u hu => by rw [Addr.add_lit]; exact hq j u hu) h1 (by unfold maxLen; omega) hb2 (Nat.zero_le _)
  refine ⟨v', w', hr, h2, h3, ?_⟩
  rcases h2.2 with ⟨_, h0⟩ | ⟨g', cap, cur, rfl, _⟩
  · omega
  · refine ⟨g', rfl, ?_⟩
    rcases h5 with h5 | h5
    · exact .inl h5.symm
    · right; simpa [Value.ownBlock] using h5
/-- what is kept but for the blocks of S -/
structure Keep (S : Nat → Prop) (w w' : World) : Prop where
  os : w'.os = w.os
  tape : w'.tape = w.tape
  output : w'.output = w.output
  size : w.heap.size ≤ w'.heap.size
  block : ∀ k, k < w.heap.size → ¬ S k → w'.heap[k]? = w.heap[k]?
theorem Keep.refl (S : Nat → Prop) (w : World) : Keep S w w := ⟨rfl, rfl, rfl, Nat.le_refl _, fun _ _ _ => rfl⟩
theorem Keep.trans {S T : Nat → Prop} {w w1 w2 : World} (h : Keep S w w1) (k : Keep T w1 w2) (hs : ∀ j, T j → j < w.heap.size → S j) : Keep S w w2 :=
  ⟨k.os.trans h.os, k.tape.trans h.tape, k.output.trans h.output, Nat.le_trans h.size k.size, fun j hj hn => (k.block j (Nat.lt_of_lt_of_le hj h.size) (fun ht => hn (hs j ht hj))).trans (h.block j hj hn)⟩
theorem Keep.grown {S : Nat → Prop} {w w' : World} {b : Nat} (h : w.grownBy w' (some b)) (hb : S b) : Keep S w w' := ⟨h.os, h.tape, h.output, h.size, fun k hk hn => h.block k hk (fun e => hn (by cases e; exact hb))⟩
theorem Keep.grownO {S : Nat → Prop} {w w' : World} {r : Option Nat} (h : w.grownBy w' r) (hb : ∀ b, r = some b → S b) : Keep S w w' := ⟨h.os, h.tape, h.output, h.size, fun k hk hn => h.block k hk (fun e => hn (hb k e.symm))⟩
theorem Keep.below {S : Nat → Prop} {w w' : World} (h : Below w.heap.size w w') : Keep S w w' := ⟨h.os, h.tape, h.output, h.size, fun k hk _ => h.block k hk⟩
theorem Keep.toBelow {S : Nat → Prop} {B : Nat} {w w' : World} (h : Keep S w w') (hB : B ≤ w.heap.size) (hs : ∀ k, S k → B ≤ k) : Below B w w' :=
  ⟨h.os, h.tape, h.output, h.size, fun k hk => h.block k (by omega) (fun e => by have := hs k e; omega)⟩
theorem Keep.mono {S T : Nat → Prop} {w w' : World} (h : Keep S w w') (hs : ∀ j, j < w.heap.size → S j → T j) : Keep T w w' := ⟨h.os, h.tape, h.output, h.size, fun k hk hn => h.block k hk (fun e => hn (hs k hk e))⟩
theorem Keep.drew {S : Nat → Prop} {w w' : World} (h : Keep S w w') : Keep S w w'.drew := ⟨h.os, h.tape, h.output, h.size, h.block⟩
theorem Keep.blk {S : Nat → Prop} {w w' : World} (h : Keep S w w') {b : Nat} {t : TypeId} {L : List Value} (hb : Blk w b t L) (hn : ¬ S b) : Blk w' b t L := (h.block b hb.lt hn).trans hb
theorem fold_set : ∀ (cs : List Value) (k : Nat) (A : Array Value), A.size = k + cs.length → ((cs.zipIdx k).foldl (fun a x => a.setIfInBounds x.2 x.1) A).toList = A.toList.take k ++ cs
  | [], k, A, h => by
    rw [List.take_of_length_le (by simp at h ⊢; omega)]; simp
  | c :: cs, k, A, h => by
    rw [List.zipIdx_cons, List.foldl_cons, fold_set cs (k + 1) _ (by simp at h ⊢; omega)]
    have hk : k < A.toList.length := by simp at h ⊢; omega
    simp only [Array.toList_setIfInBounds]
    rw [List.take_succ_eq_append_getElem (by simpa using hk), List.take_set_of_le (Nat.le_refl _)]
    simp
/-- a type's size -/
def Sized (e n by_ : Nat) : Prop := ∃ i : TypeInfo, Try.prog.info? e = some i ∧ i.size = n ∧ i.bytes = by_ ∧ ∃ z, i.zero = some z ∧ z.cells.size = n
theorem sized_of {e n by_ : Nat} (h : (Try.prog.info? e).map (fun i => (i.size, i.bytes, i.zero.map (·.cells.size))) = some (n, by_, some n)) : Sized e n by_ := by
  obtain ⟨i, hi, he⟩ := Option.map_eq_some_iff.1 h
  simp only [Prod.mk.injEq] at he
  obtain ⟨z, hz, hz2⟩ := Option.map_eq_some_iff.1 he.2.2
  exact ⟨i, hi, he.1, he.2.1, z, hz, hz2⟩
theorem run_bslice {t e n by_ : Nat} (ht : Try.prog.underlying t = some (.slice e)) (hs : Sized e n by_) (hn : n ≤ 100) (cs : List Value) (hl : cs.length = n) (W : World) :
    (Instr.buildSlice t 1 #[(0, .agg cs.toArray)]).run Try.prog W = .ok (.slice (some ⟨W.heap.size, 0, none⟩) 1 1) (W.alloc (.cells cs.toArray e)) := by
  obtain ⟨i, hi, hs1, hby, z, hz, hzs⟩ := hs
  have e : ∀ A : Array Value, A.size = n → List.foldl (fun cs (x : Value × Nat) => cs.setIfInBounds x.2 x.1) A cs.zipIdx = cs.toArray := by
    intro A hA
    apply Array.toList_inj.1
    rw [fold_set cs 0 A (by rw [hl, hA]; omega)]
    simp
  simp [Instr.buildSlice, run_underlying ht, sizeOf, typeInfo, hi, hs1, zeroValue, hz, Instr.fill, Value.cells, hl, hzs, e]
  simp [newRow]
  omega
theorem wpList_append_own1 {P : Program} {ops : Array Oper} {rest : List Oper} {o : Oper} {a : Act} {Q : Exit → Act → World → Prop} (hgd : o.guard = none) (s x : Operand) (t : TypeId)
    (hop : o.op = .call { callee := .builtin .append, args := #[s, x], argTypes := #[t, t] }) (w : World) (e : TypeId) (i : TypeInfo) (z : Value) (sz B : Nat) (ht : P.underlying t = some (.slice e)) (hi : P.info? e = some i) (hz : i.zero = some z) (hs : i.size = sz) (hby : i.bytes ≤ 24) (hzs : z.cells.size = sz) (hsz : 0 < sz)
    (v : Value) (n : Nat) (cs : List Value) (h : w.ownsRow B e sz v n cs) (g q c : Nat) (qs : List Value) (hsv : a.eval s = v) (hx : a.eval x = .slice (some ⟨g, 0, none⟩) q c) (hl : qs.length = q * sz) (hq : w.rangeAt g 0 qs) (h1 : ∀ u ∈ qs, u.oneCell' = true) (hB : B ≤ w.heap.size) (hn : n + q ≤ 4000000000000)
    (hk : ∀ v' w', Hid (w'.ownsRow B e sz v' (n + q) (cs ++ qs)) → Hid (w.grownBy w' v.ownBlock) → wpList P ops Q rest (a.put o.dst v') w') : wpList P ops Q (o :: rest) a w := by
  refine wpList_plain hgd fun K hK => ?_
  obtain ⟨v', w', hr, h2, h3, _⟩ := run_append_own_wide (P := P) w B t o.type e i z sz i.bytes ht hi hz hs rfl hzs hsz v n cs h ⟨g, 0, none⟩ q c qs hl (fun j u hu => by rw [Addr.add_lit]; exact hq j u hu) h1 (by unfold maxLen; omega) (Nat.le_trans (Nat.mul_le_mul_left _ hby) (by omega)) hB
  unfold Oper.wp execOp
  simp only [hop, resolve, invoke, builtin, Sem.run_bind, Sem.run_pure, Result.andThen_ok, List.map_toArray, List.map_cons, List.map_nil, hsv, hx, hr]
  exact hK _ _ (hk v' w' h2 h3)
theorem ownsRow_below {w w' : World} {B e sz n : Nat} {v : Value} {cs : List Value} (h : w.ownsRow B e sz v n cs) (hb : Below w.heap.size w w') : w'.ownsRow B e sz v n cs := by
  refine ⟨h.1, ?_⟩
  rcases h.2 with hn | ⟨g, cap, cur, rfl, hB, hbk, hr⟩
  · exact .inl hn
  · exact .inr ⟨g, cap, cur, rfl, hB, (hb.block g (lt_of_block hbk)).trans hbk, hr⟩
theorem rangeAt_same {w w' : World} {b o : Nat} {cs : List Value} (h : w.rangeAt b o cs) (hs : w'.heap[b]? = w.heap[b]?) : w'.rangeAt b o cs :=
  fun j v hj => (World.cell?_of_block (a := ⟨b, o + j, none⟩) hs).trans (h j v hj)
theorem range_new (w : World) (cs : List Value) (t : TypeId) : (w.alloc (.cells cs.toArray t)).rangeAt w.heap.size 0 cs := by
  have hb : Blk (w.alloc (.cells cs.toArray t)) w.heap.size t cs := by simpa using Blk.new w cs.toArray t
  intro j v hj
  rw [Nat.zero_add]
  exact hb.cell hj
theorem below_drew0 (w : World) : Below w.heap.size w w.drew := ⟨rfl, rfl, rfl, Nat.le_refl _, fun _ _ => rfl⟩
section
variable {ops : Array Oper} {o : Oper} {a : Act} {w : World} {K : Act → World → Prop} {Q : Exit → Act → World → Prop} {E : Prop}
theorem step_bs (hw : Region.wanted o (yielded ops a.tmps) = true) (t : TypeId) (x : Operand) (u : Value) (hop : o.op = .buildSlice t 1 #[(0, x)]) (hx : a.eval x = u) {v : Value} {w' : World} (hrun : (Instr.buildSlice t 1 #[(0, u)]).run Try.prog w = .ok v w')
    (hk : K (a.put o.dst v) w') : if Region.wanted o (yielded ops a.tmps) = true then Oper.wp Try.prog o a w K Q else E := by
  rw [if_pos hw]
  unfold Oper.wp execOp
  simp [hop, hx, hrun, Result.andThen]
  exact hk
theorem step_app (hw : Region.wanted o (yielded ops a.tmps) = true) (t e : TypeId) (n by_ : Nat) (s x : Operand) (hop : o.op = .call { callee := .builtin .append, args := #[s, x], argTypes := #[t, t] }) (ht : Try.prog.underlying t = some (.slice e)) (hs : Sized e n by_) (hby : by_ ≤ 24) (hsz : 0 < n)
    (v : Value) (m : Nat) (cs : List Value) (h : Ow w e n v m cs) (g c : Nat) (qs : List Value) (hl : qs.length = n) (hq : w.rangeAt g 0 qs) (h1 : ∀ u ∈ qs, u.oneCell' = true) (hn : m + 1 ≤ 4000000000000) (hsv : a.eval s = v) (hx : a.eval x = .slice (some ⟨g, 0, none⟩) 1 c)
    (hk : ∀ v' w', Hid (Ow w' e n v' (m + 1) (cs ++ qs)) → Hid (w.grownBy w' v.ownBlock) → Hid (∃ g', v'.ownBlock = some g' ∧ (v.ownBlock = some g' ∨ g' = w.heap.size)) → K (a.put o.dst v') w') : if Region.wanted o (yielded ops a.tmps) = true then Oper.wp Try.prog o a w K Q else E := by
  obtain ⟨i, hi, hs1, hb, z, hz, hzs⟩ := hs
  rw [if_pos hw]
  obtain ⟨v', w', hr, h2, h3, h4⟩ := run_append_ow (P := Try.prog) w t o.type e i z n ht hi hz hs1 hzs hsz v m cs h g 0 1 c qs (by rw [hl]; omega) hq h1 hn (by omega) (by omega)
  unfold Oper.wp execOp
  simp only [hop, resolve, invoke, builtin, Sem.run_bind, Sem.run_pure, Result.andThen_ok, List.map_toArray, List.map_cons, List.map_nil, hsv, hx, hr]
  exact hk v' w' h2 h3 h4
theorem step_st (hw : Region.wanted o (yielded ops a.tmps) = true) (t : TypeId) (x y : Operand) (hop : o.op = .store t x y) (b k : Nat) (v : Value) (T : TypeId) (L : List Value) (hx : a.eval x = .pointer (some ⟨b, k, none⟩)) (hy : a.eval y = v) (hb : Blk w b T L) (hkl : k < L.length)
    (hi : (Try.prog.info? t).map (·.size) = some 1) (h1 : v.cells = #[v]) (h2 : v.oneCell' = true) (hk : K (a.put o.dst undef) (w.setCell ⟨b, k, none⟩ v)) : if Region.wanted o (yielded ops a.tmps) = true then Oper.wp Try.prog o a w K Q else E := by
  rw [if_pos hw]
  obtain ⟨i, hi2, hi3⟩ := Option.map_eq_some_iff.1 hi
  obtain ⟨u, hu⟩ : ∃ u, L[k]? = some u := ⟨_, List.getElem?_eq_getElem hkl⟩
  have hc := hb.cell hu
  have hf := hb.free k
  unfold Oper.wp execOp
  simp [hop, hx, hy, Instr.storeAt, Instr.sureAddr, storeVar, sizeOf, typeInfo, hi2, hi3, h1, storeCells, run_store _ _ _ _ _ h2, stored, hc, hf, Addr.add_lit, Result.andThen]
  exact hk
end
theorem sized3 : Sized 3 1 8 := sized_of (by kernel_rfl)
theorem sized38 : Sized 38 3 24 := sized_of (by kernel_rfl)
theorem empty_row (w : World) (e sz : Nat) : (w.alloc (.cells #[] e)).ownsRow w.heap.size e sz (.slice (some ⟨w.heap.size, 0, none⟩) 0 0) 0 [] :=
  ⟨by simp, .inr ⟨w.heap.size, 0, #[], rfl, Nat.le_refl _, heap_alloc_new w _, Nat.le_refl _, by unfold maxLen; omega, by simp, by simp⟩⟩
#print axioms sized38
end Go.Proofs.Ytipipckbcelphaa.Oct
