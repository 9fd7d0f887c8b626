/-
  Layer 2 (hash): a digest's block, and what writing does to it; 'isMade'.
-/
import Derived.Test.YtjeahlfmapacfaaDoorEnding
import Derived.Test.YtjeahlfmapacfaaDoorWords
import Derived.Deep.RegionLaw
namespace Go.Proofs.YtjeahlfmapacfaaDoor.Oct
open Go.RowKit Sha

/-- the cells of a digest -/
def cellsOf (s : St) (tail : List UInt8) (N : Nat) : List Value := .bool true :: (V s.words ++ (U tail ++ [.int .u64 (N : Int)]))
section
variable {s : St} {tail : List UInt8} {N : Nat} (ht : tail.length = 64)
include ht
theorem cellsOf_length : (cellsOf s tail N).length = 74 := by simp [cellsOf, V, U, ht, St.words]
theorem cellsOf_73 : (cellsOf s tail N)[73]? = some (.int .u64 (N : Int)) := by
  unfold cellsOf
  rw [List.getElem?_cons_succ, List.getElem?_append_right (by simp [V, St.words]), List.getElem?_append_right (by simp [V, U, St.words, ht])]
  simp [V, U, St.words, ht]
theorem cellsOf_set (N' : Nat) : (cellsOf s tail N).set 73 (.int .u64 (N' : Int)) = cellsOf s tail N' := by
  unfold cellsOf
  rw [List.set_cons_succ, List.set_append_right _ _ (by simp [V, St.words]), List.set_append_right _ _ (by simp [V, U, St.words, ht])]
  simp [V, U, St.words, ht]
theorem cellsOf_splice (r : Nat) (x : List UInt8) (h : r + x.length ≤ 64) : splice (cellsOf s tail N) (9 + r) (U x) = cellsOf s (splice tail r x) N := by
  have h8 : (V s.words).length = 8 := by simp [V, St.words]
  have hU : (U tail).length = 64 := by rw [U_length, ht]
  have e1 : (cellsOf s tail N).take (9 + r) = .bool true :: (V s.words ++ U (tail.take r)) := by
    unfold cellsOf
    rw [show 9 + r = (8 + r) + 1 by omega, List.take_succ_cons, List.take_append, h8, List.take_of_length_le (by omega), show 8 + r - 8 = r by omega, List.take_append_of_le_length (by omega)]
    simp [U]
  have e2 : (cellsOf s tail N).drop (9 + r + (U x).length) = U (tail.drop (r + x.length)) ++ [.int .u64 (N : Int)] := by
    unfold cellsOf
    rw [U_length, show 9 + r + x.length = (8 + (r + x.length)) + 1 by omega, List.drop_succ_cons, List.drop_append, h8, List.drop_eq_nil_of_le (by omega), List.nil_append, show 8 + (r + x.length) - 8 = r + x.length by omega, List.drop_append_of_le_length (by omega)]
    simp [U]
  unfold splice
  rw [e1, e2]
  simp [cellsOf, U]
theorem cellsOf_tail : ((cellsOf s tail N).drop 9).take 64 = U tail := by
  unfold cellsOf
  rw [List.drop_succ_cons, List.drop_append, List.drop_eq_nil_of_le (by simp [V, St.words]), List.nil_append, show 8 - (V s.words).length = 0 by simp [V, St.words], List.drop_zero, List.take_append_of_le_length (by rw [U_length]; omega), List.take_of_length_le (by rw [U_length]; omega)]
end
theorem cellsOf_state (s : St) (tail : List UInt8) (N : Nat) : ((cellsOf s tail N).drop 1).take 8 = V s.words := by
  simp [cellsOf, V, St.words]
theorem cellsOf_after (s s' : St) (tail : List UInt8) (N : Nat) : (cellsOf s tail N).take 1 ++ V s'.words ++ (cellsOf s tail N).drop (1 + (V s'.words).length) = cellsOf s' tail N := by
  simp [cellsOf, V, St.words]

/-- the tail holds what stands behind the last whole block -/
def Tail (M tail : List UInt8) : Prop := tail.length = 64 ∧ tail.take (M.length % 64) = M.drop (M.length / 64 * 64)
/-- a digest of M -/
def Dig (w : World) (d : Nat) (M : List UInt8) : Prop := ∃ tail, Tail M tail ∧ Blk w d 106 (cellsOf (fold Sha.start M) tail M.length)

theorem splice_length {α : Type} (L cs : List α) (o : Nat) (h : o + cs.length ≤ L.length) : (splice L o cs).length = L.length := by
  simp [splice]; omega
/-- the tail is not yet full -/
theorem Tail.more {M tail x : List UInt8} (h : Tail M tail) (hx : M.length % 64 + x.length < 64) : Tail (M ++ x) (splice tail (M.length % 64) x) ∧ fold Sha.start (M ++ x) = fold Sha.start M := by
  refine ⟨⟨?_, ?_⟩, fold_more _ _ _ _ (Nat.le_refl _) hx⟩
  · rw [splice_length _ _ _ (by rw [h.1]; omega), h.1]
  · have e1 : (M ++ x).length % 64 = M.length % 64 + x.length := by rw [List.length_append]; omega
    have e2 : (M ++ x).length / 64 * 64 = M.length / 64 * 64 := by rw [List.length_append]; omega
    rw [e1, e2, List.drop_append_of_le_length (by omega), ← h.2]
    unfold splice
    rw [← List.append_assoc, List.take_append_of_le_length (by simp [h.1]; omega), List.take_of_length_le (by simp [h.1]; omega)]
/-- it is full -/
theorem Tail.full {M tail x : List UInt8} (h : Tail M tail) (hx : M.length % 64 + x.length = 64) : Tail (M ++ x) (splice tail (M.length % 64) x) ∧ fold Sha.start (M ++ x) = Sha.step (fold Sha.start M) (splice tail (M.length % 64) x) := by
  have e0 : splice tail (M.length % 64) x = M.drop (M.length / 64 * 64) ++ x := by
    unfold splice
    rw [hx, List.drop_eq_nil_of_le (by rw [h.1]; omega), List.append_nil, h.2]
  refine ⟨⟨?_, ?_⟩, ?_⟩
  · rw [splice_length _ _ _ (by rw [h.1]; omega), h.1]
  · have e1 : (M ++ x).length % 64 = 0 := by rw [List.length_append]; omega
    have e2 : (M ++ x).length / 64 * 64 = (M ++ x).length := by omega
    rw [e1, e2, List.drop_eq_nil_of_le (Nat.le_refl _), List.take_zero]
  · rw [e0]; exact fold_full _ _ _ _ (Nat.le_refl _) hx

/-- bytes that come in, not those of block d -/
def InX (d : Nat) (w : World) (a : Option Addr) (len cap : Nat) (l : List UInt8) : Prop := In w a len cap l ∧ (0 < len → ∀ x, a = some x → x.block ≠ d)
theorem InX.grown {d : Nat} {w w' : World} {a : Option Addr} {len cap : Nat} {l : List UInt8} (h : InX d w a len cap l) (hg : w.grownBy w' (some d)) : InX d w' a len cap l := by
  obtain ⟨⟨h1, h2, h3, h4, h5⟩, hx⟩ := h
  refine ⟨⟨h1, h2, h3, h4, fun hp => ?_⟩, hx⟩
  obtain ⟨b, off, e1, e2, e3⟩ := h5 hp
  have hb : b ≠ d := hx hp _ e1
  exact ⟨b, off, e1, Nat.lt_of_lt_of_le e2 hg.size, fun i c hc => hg.cell (e3 i c hc) (by simpa using hb)⟩

theorem elem22 : Tryd.prog.underlying 22 = some (.slice (Tryd.prog.elem 22)) := by kernel_rfl
theorem size22 : (Tryd.prog.info? (Tryd.prog.elem 22)).map (·.size) = some 1 := by kernel_rfl

/-- 'b[s:]' of bytes that came in -/
theorem slice_from {d : Nat} {w : World} {a : Option Addr} {m cp : Nat} {l : List UInt8} (hx : InX d w a m cp l) (s : Nat) (hs : s ≤ m) :
    ∃ a', (∀ W, (Instr.slice 22 (.slice a m cp) (some (.int .i64 (s : Int))) none none).run Tryd.prog W = .ok (.slice a' (m - s) (cp - s)) W) ∧ InX d w a' (m - s) (cp - s) (l.drop s) := by
  obtain ⟨hin, hd⟩ := hx
  obtain ⟨i, hi, hsz⟩ := Option.map_eq_some_iff.1 size22
  refine ⟨if cp = s then a else a.map (·.add s), fun W => ?_, ?_, ?_⟩
  · simp [Instr.slice, run_underlying elem22, Instr.sliceBounds, Instr.sliceBound, asIntOf, sizeOf, typeInfo, hi, hsz, hs]
  · have h1 := hin.1
    have h2 := hin.2.1
    refine ⟨by simp; omega, by omega, by have := hin.2.2.1; omega, ?_, fun hp => ?_⟩
    · intro e
      cases a with
      | none => have := hin.2.2.2.1 rfl; omega
      | some x => split at e <;> simp at e
    · obtain ⟨b, off, rfl, e2, e3⟩ := hin.2.2.2.2 (by omega)
      rw [if_neg (by omega)]
      refine ⟨b, off + s, by simp [Addr.add_lit], e2, fun i c hc => ?_⟩
      rw [List.getElem?_drop] at hc
      rw [Nat.add_assoc]
      exact e3 _ c hc
  · intro hp x e
    have hd := hd (by omega)
    split at e
    · exact hd x e
    · cases a with
      | none => simp at e
      | some y =>
        have := hd y rfl
        simp only [Option.map_some, Option.some.injEq] at e
        subst e
        unfold Addr.add
        split <;> exact this

theorem wpList_slice_from {ops : Array Oper} {rest : List Oper} {o : Oper} {a : Act} {Q : Exit → Act → World → Prop} {w : World} (hgd : o.guard = none) (x lo : Operand) (hop : o.op = Op.slice 22 x (some lo) none none)
    (v v' : Value) (s : Nat) (hx : a.eval x = v) (hlo : a.eval lo = .int .i64 (s : Int)) (hrun : ∀ W, (Instr.slice 22 v (some (.int .i64 (s : Int))) none none).run Tryd.prog W = .ok v' W)
    (h : wpList Tryd.prog ops Q rest (a.put o.dst v') w) : wpList Tryd.prog ops Q (o :: rest) a w := by
  refine wpList_plain hgd fun K hK => ?_
  unfold Oper.wp
  simp [execOp, hop, hx, hlo, run_sliceAt_slice _ 22 _ _ _ _ elem22, hrun, Result.andThen]
  exact hK _ _ h

theorem grown_setRow (w : World) (g : Nat) (cs : Array Value) : w.grownBy (w.setRow g cs) (some g) :=
  ⟨rfl, rfl, rfl, by simp [World.setRow], fun k _ hne => setRow_other w g k cs (fun e => hne (by rw [e]))⟩

/-- 'copy' into the midst of a block, as a step of a region that draws -/
theorem step_copy_blk {P : Program} {ops : Array Oper} {o : Oper} {a : Act} {w : World} {K : Act → World → Prop} {Q : Exit → Act → World → Prop} {E : Prop} (hgd : o.guard = none) (d s : Operand) (dT sT : TypeId)
    (ho : o.op = .call { callee := .builtin .copy, args := #[d, s], argTypes := #[dT, sT] }) (elem : TypeId) (hu : P.underlying dT = some (.slice elem)) (hsz : (P.info? elem).map (·.size) = some 1)
    (g off dLen dCap : Nat) (sp : Option Addr) (sLen sCap : Nat) (hd : a.eval d = .slice (some ⟨g, off, none⟩) dLen dCap) (hs : a.eval s = .slice sp sLen sCap)
    (cur : List Value) (t : TypeId) (hg : Blk w g t cur) (cs : List Value) (hn : cs.length = Nat.min sLen dLen)
    (hpos : ∃ ad, sp = some ad ∧ ∀ j v, cs[j]? = some v → w.cell? (ad.add j) = some v)
    (hfit : off + cs.length ≤ cur.length) (h1 : ∀ v ∈ cs, v.oneCell' = true)
    (h : ∀ w', Hid (Blk w' g t (splice cur off cs)) → Hid (w.grownBy w' (some g)) → K (a.put o.dst (goInt cs.length)) w') :
    if Region.wanted o (yielded ops a.tmps) = true then Oper.wp P o a w K Q else E := by
  have hw : Region.wanted o (yielded ops a.tmps) = true := by simp [Region.wanted, hgd]
  rw [if_pos hw]
  obtain ⟨ad, rfl, hsrc⟩ := hpos
  have hrun := run_copy_row (P := P) w dT sT o.type elem g off dLen dCap ad sLen sCap cur.toArray t cs hu hsz hg hn hsrc (by simpa using hfit) h1
  unfold Oper.wp
  simp [execOp, ho, resolve, invoke, builtin, hd, hs, hrun, Result.andThen]
  exact h _ (show _ = _ by simpa [splice] using setRow_heap w g _ _ t _ hg) (grown_setRow w g _)

set_option maxHeartbeats 400000 in
theorem isMade_is (d : Nat) (b : Bool) (w : World) (h : w.cell? ⟨d, 0, none⟩ = some (.bool b)) :
    Calls Tryd.prog 61 #[.pointer (some ⟨d, 0, none⟩)] w fun e w' => e = .returned (.bool b) ∧ w = w' := by
  go_enter Tryd.func61, Tryd.ntmps61
  go_wp2
  go_ret
  exact ⟨rfl, rfl⟩
theorem isMade_nil (w : World) : Calls Tryd.prog 61 #[.pointer none] w fun e w' => e = .returned (.bool false) ∧ w = w' := by
  go_enter Tryd.func61, Tryd.ntmps61
  go_wp2
  go_ret
  exact ⟨rfl, rfl⟩

#print axioms isMade_is
#print axioms step_copy_blk
end Go.Proofs.YtjeahlfmapacfaaDoor.Oct
