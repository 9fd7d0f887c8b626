/-
  Layer 10 (patch): the writer: mark, number, text.
-/
import Derived.Test.YtgdecjacbkicmaaChk
import Derived.Test.YtgdecjacbkicmaaOPut
import Derived.Test.YtgdecjacbkicmaaArgs
namespace Go.Proofs.Ytgdecjacbkicmaa.Oct
open Go.RowKit
set_option maxRecDepth 100000
set_option linter.unusedSimpArgs false
set_option linter.unusedVariables false

theorem store_fn {w : World} {a : Addr} {v u : Value} (h1 : v.oneCell' = true) (hc : w.cell? a = some u) (hf : w.frozen? a = false) : (store a v).run Try.prog w = .ok () (w.setCell a v) := by
  simp [run_store _ _ _ _ _ h1, stored, hc, hf]
theorem info36 : (Try.prog.info? 36).map (·.size) = some 1 := by kernel_rfl
theorem run_st36 {w : World} {g n c : Nat} {va : Option Addr} {x dv : Value} (hb : Blk w g 71 [x, dv]) : (storeVar 36 ⟨g, 0, none⟩ (.slice va n c)).run Try.prog w = .ok () (w.setCell ⟨g, 0, none⟩ (.slice va n c)) := by
  have h1 := store_fn (v := .slice va n c) rfl (hb.cell (i := 0) rfl) (hb.free 0)
  obtain ⟨i, hi, hs⟩ := Option.map_eq_some_iff.1 info36
  have h2 : (store ((⟨g, 0, none⟩ : Addr).add 0) (.slice va n c)).run Try.prog w = .ok () (w.setCell ⟨g, 0, none⟩ (.slice va n c)) := h1
  simp [storeVar, sizeOf, typeInfo, hi, hs, Value.cells, storeCells, h2]
theorem step_st36 {ops : Array Oper} {op : Oper} {a : Act} {w : World} {K : Act → World → Prop} {Q : Exit → Act → World → Prop} {E : Prop} (hw : Region.wanted op (yielded ops a.tmps) = true) (x y : Operand) (ho : op.op = .store 36 x y)
    (g n c : Nat) (va : Option Addr) (u dv : Value) (hx : a.eval x = .pointer (some ⟨g, 0, none⟩)) (hy : a.eval y = .slice va n c) (hb : Blk w g 71 [u, dv])
    (h : K (a.put op.dst undef) (w.setCell ⟨g, 0, none⟩ (.slice va n c))) : if Region.wanted op (yielded ops a.tmps) = true then Oper.wp Try.prog op a w K Q else E := by
  rw [if_pos hw]
  unfold Oper.wp execOp
  simp only [ho, hx, hy, Instr.storeAt, Instr.sureAddr, Sem.run_bind, Sem.run_pure, Result.andThen_ok, run_st36 hb]
  exact h
/-- what a writer leaves as it was: what lies below B, and all but bytes and writers -/
structure Fr (B : Nat) (w w' : World) : Prop where
  os : w'.os = w.os
  tape : w'.tape = w.tape
  output : w'.output = w.output
  size : w.heap.size ≤ w'.heap.size
  low : ∀ k, k < B → w'.heap[k]? = w.heap[k]?
  typ : ∀ (k : Nat) (C : Array Value) (t : TypeId) (f : Nat × Nat), w.heap[k]? = some (.cells C t f) → t ≠ 5 → t ≠ 71 → w'.heap[k]? = w.heap[k]?
theorem Fr.refl (B : Nat) (w : World) : Fr B w w := ⟨rfl, rfl, rfl, Nat.le_refl _, fun _ _ => rfl, fun _ _ _ _ _ _ _ => rfl⟩
theorem Fr.trans {B : Nat} {a b c : World} (h : Fr B a b) (k : Fr B b c) : Fr B a c :=
  ⟨k.os.trans h.os, k.tape.trans h.tape, k.output.trans h.output, Nat.le_trans h.size k.size, fun i hi => (k.low i hi).trans (h.low i hi), fun i C t f hc h1 h2 => by
    have e := h.typ i C t f hc h1 h2
    exact (k.typ i C t f (e.trans hc) h1 h2).trans e⟩
theorem Fr.of_below {B : Nat} {w w' : World} (h : Below w.heap.size w w') (hB : B ≤ w.heap.size) : Fr B w w' :=
  ⟨h.os, h.tape, h.output, h.size, fun k hk => h.block k (Nat.lt_of_lt_of_le hk hB), fun k C t f hc _ _ => h.block k (Array.getElem?_eq_some_iff.1 hc).1⟩
theorem Fr.below {B : Nat} {w w' : World} (h : Fr B w w') : Below B w w' := ⟨h.os, h.tape, h.output, h.size, h.low⟩
theorem Fr.of_grown {B : Nat} {w w' : World} {r : Option Nat} (h : w.grownBy w' r) (hB : B ≤ w.heap.size) (hr : ∀ g, r = some g → B ≤ g ∧ ∀ C t f, w.heap[g]? = some (.cells C t f) → t = 5 ∨ t = 71) : Fr B w w' := by
  obtain ⟨a1, a2, a3, a4, a5⟩ := h
  refine ⟨a1, a2, a3, a4, fun k hk => a5 k (Nat.lt_of_lt_of_le hk hB) (fun e => by have := (hr k e.symm).1; omega), fun k C t f hc h1 h2 => a5 k (Array.getElem?_eq_some_iff.1 hc).1 (fun e => ?_)⟩
  rcases (hr k e.symm).2 C t f hc with h | h
  · exact h1 h
  · exact h2 h
theorem Blk.fr {B : Nat} {w w' : World} {d : Nat} {t : TypeId} {L : List Value} (h : Blk w d t L) (k : Fr B w w') (h1 : t ≠ 5) (h2 : t ≠ 71) : Blk w' d t L := (k.typ d _ t _ h h1 h2).trans h
theorem own_type {B : Nat} {w : World} {v : Value} {l : List UInt8} {g : Nat} (h : Own 5 B w v l) (hg : v.ownBlock = some g) : ∃ C : Array Value, w.heap[g]? = some (.cells C 5 (0, 0)) ∧ B ≤ g := by
  rcases h.2 with ⟨rfl, _⟩ | ⟨g', cap, cur, rfl, hB, hb, _⟩
  · cases hg
  · cases hg; exact ⟨cur, hb, hB⟩
theorem own_keep {B : Nat} {w w' : World} {v : Value} {l : List UInt8} (h : Own 5 B w v l) (hs : ∀ g, v.ownBlock = some g → w'.heap[g]? = w.heap[g]?) : Own 5 B w' v l := by
  obtain ⟨h1, h2⟩ := h
  refine ⟨h1, ?_⟩
  rcases h2 with h2 | ⟨g, cap, cur, rfl, e2, hg, r⟩
  · exact .inl h2
  · exact .inr ⟨g, cap, cur, rfl, e2, (hs g rfl).trans hg, r⟩
/-- a writer that wrote M -/
structure Wr (B : Nat) (w : World) (g : Nat) (dv : Value) (M : List UInt8) : Prop where
  own : ∃ (va : Option Addr) (n c : Nat), Blk w g 71 [.slice va n c, dv] ∧ Own 5 B w (.slice va n c) M
  lo : B ≤ g
theorem Wr.lt {B : Nat} {w : World} {g : Nat} {dv : Value} {M : List UInt8} (h : Wr B w g dv M) : g < w.heap.size ∧ B ≤ w.heap.size := by
  obtain ⟨_, _, _, h1, _⟩ := h.own
  exact ⟨h1.lt, by have := h1.lt; have := h.lo; omega⟩
theorem Wr.below {B : Nat} {w w' : World} {g : Nat} {dv : Value} {M : List UInt8} (h : Wr B w g dv M) (hb : Below w.heap.size w w') : Wr B w' g dv M := by
  obtain ⟨va, n, c, h1, h2⟩ := h.own
  exact ⟨⟨va, n, c, h1.below hb h1.lt, h2.below hb (Nat.le_refl _)⟩, h.lo⟩
/-- behind the append, and the store of what it tells -/
theorem Wr.put {B : Nat} {w w2 : World} {g : Nat} {dv : Value} {M M' : List UInt8} {va va' : Option Addr} {n c n' c' : Nat} (hb : Blk w g 71 [.slice va n c, dv]) (ho : Own 5 B w (.slice va n c) M) (hlo : B ≤ g) (hg : w.grownBy w2 (Value.slice va n c).ownBlock) (ho2 : Own 5 B w2 (.slice va' n' c') M') :
    Blk w2 g 71 [.slice va n c, dv] ∧ Wr B (w2.setCell ⟨g, 0, none⟩ (.slice va' n' c')) g dv M' ∧ Fr B w (w2.setCell ⟨g, 0, none⟩ (.slice va' n' c')) := by
  have hne : some g ≠ (Value.slice va n c).ownBlock := fun e => by
    obtain ⟨C, hC, _⟩ := own_type ho e.symm
    have := hC.symm.trans hb
    simp at this
  have hb2 : Blk w2 g 71 [.slice va n c, dv] := hb.kept hg hne
  have hB : B ≤ w.heap.size := by have := hb.lt; omega
  refine ⟨hb2, ⟨⟨va', n', c', hb2.set 0 _, own_keep ho2 fun k hk => ?_⟩, hlo⟩, (Fr.of_grown hg hB ?_).trans (Fr.of_grown (grown_setCell w2 g 0 _) (Nat.le_trans hB hg.size) ?_)⟩
  · refine (grown_setCell w2 g 0 _).block k ?_ ?_
    · obtain ⟨C, hC, _⟩ := own_type ho2 hk
      exact (Array.getElem?_eq_some_iff.1 hC).1
    · intro e
      cases e
      obtain ⟨C, hC, _⟩ := own_type ho2 hk
      have := hC.symm.trans hb2
      simp at this
  · intro k hk
    obtain ⟨C, hC, hBk⟩ := own_type ho hk
    refine ⟨hBk, fun C' t f h => ?_⟩
    rw [hC] at h
    cases h
    exact .inl rfl
  · intro k hk
    cases hk
    refine ⟨hlo, fun C t f h => ?_⟩
    rw [hb2] at h
    cases h
    exact .inr rfl
def WrP (B : Nat) (g : Nat) (dv : Value) (M : List UInt8) (w : World) (e : Ending) (w' : World) : Prop := (∃ v, e = .returned v) ∧ Wr B w' g dv M ∧ Fr B w w'
theorem i5 : ∃ i, Try.prog.info? 5 = some i ∧ i.zero = some (.int .u8 0) ∧ i.size = 1 ∧ i.bytes = 1 := by
  obtain ⟨i, hi, he⟩ := Option.map_eq_some_iff.1 info5
  simp only [Prod.mk.injEq] at he
  exact ⟨i, hi, he.1, he.2.1, he.2.2⟩
theorem sl_of5 {B : Nat} {w : World} {v : Value} {l : List UInt8} (h : Own 5 B w v l) : ∃ a n c, v = .slice a n c ∧ n = l.length := by
  rcases h.2 with ⟨rfl, h0⟩ | ⟨g, cap, cur, rfl, _⟩
  · exact ⟨_, _, _, rfl, h0.symm⟩
  · exact ⟨_, _, _, rfl, rfl⟩
set_option maxHeartbeats 2000000 in
theorem mark_is {B : Nat} {w : World} {g : Nat} {dv : Value} {M : List UInt8} (h : Wr B w g dv M) (c : UInt8) (hM : M.length ≤ 1000000) : Calls Try.prog 61 #[.pointer (some ⟨g, 0, none⟩), .int .u8 (c.toNat : Int)] w (WrP B g dv (M ++ [c]) w) := by
  obtain ⟨va, n, cp, hb, ho⟩ := h.own
  obtain ⟨i0, hi, hz0, hz1, hz2⟩ := i5
  have c0 : w.cell? ⟨g, 0, none⟩ = some (.slice va n cp) := hb.cell rfl
  have HB : Hid (Blk w g 71 [.slice va n cp, dv] ∧ Own 5 B w (.slice va n cp) M ∧ B ≤ g ∧ M.length ≤ 1000000) := ⟨hb, ho, h.lo, hM⟩
  obtain ⟨W1, hW1⟩ : ∃ W, w.alloc (.cells #[.int .u8 (c.toNat : Int)] 5) = W := ⟨_, rfl⟩
  obtain ⟨r, hr⟩ : ∃ r, w.heap.size = r := ⟨_, rfl⟩
  have HI : Hid (In W1 (some ⟨r, 0, none⟩) 1 1 [c] ∧ Below w.heap.size w W1) := by
    refine ⟨?_, by rw [← hW1]; exact below_al _ _⟩
    rw [← hW1, ← hr]
    exact in_new w 5 [c] (by simp)
  clear h hb ho hM
  go_enter Try.func61, Try.ntmps61
  go_wp2_with (with_reducible change wpList _ _ _ ({ dst := some 11, op := _, type := _, pos := _, after := _, guard := _ } :: _) _ _; refine Hid.out ?_)
  show wpList _ _ _ _ _ _
  refine wpList_append_in W1 rfl (.tmp 8) (.tmp 10) 36 rfl B 5 i0 Try.underlying36 hi hz0 hz1 hz2 (.slice va n cp) M M.length rfl rfl (HB.out.2.1.below HI.out.2 (Nat.le_refl _)) (some ⟨r, 0, none⟩) 1 1 [c] rfl HI.out.1 (by have := HB.out.2.2.2; omega) (by have := HB.out.1.lt; have := HI.out.2.size; have := HB.out.2.2.1; omega) ?_
  intro v2 W2 ho2 hg2
  obtain ⟨va2, n2, c2, rfl, -⟩ := sl_of5 ho2
  have HP := Wr.put (HB.out.1.below HI.out.2 HB.out.1.lt) (HB.out.2.1.below HI.out.2 (Nat.le_refl _)) HB.out.2.2.1 hg2 ho2
  have HF : Hid (Wr B (W2.setCell ⟨g, 0, none⟩ (.slice va2 n2 c2)) g dv (M ++ [c]) ∧ Fr B w (W2.setCell ⟨g, 0, none⟩ (.slice va2 n2 c2))) := ⟨HP.2.1, (Fr.of_below HI.out.2 (by have := HB.out.1.lt; have := HB.out.2.2.1; omega)).trans HP.2.2⟩
  have d0 : W2.cell? ⟨g, 0, none⟩ = some (.slice va n cp) := HP.1.cell rfl
  have f0 := HP.1.free 0
  clear HP ho2 hg2 c0 hW1 hr
  go_wp2
  go_end0
  exact ⟨⟨_, rfl⟩, HF.out.1, HF.out.2⟩
#print axioms mark_is
end Go.Proofs.Ytgdecjacbkicmaa.Oct
