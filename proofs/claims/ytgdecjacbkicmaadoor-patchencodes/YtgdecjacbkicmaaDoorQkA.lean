/-
  Layer 10 (patch): the writer: mark, number, text.
  Layer 10 (patch): the writer: text and number.
  Layer 10 (patch): the writer: vertices and operations.
  Layer 10 (patch): the writer: operations.
  Layer 10 (patch): Encode.
-/
import Derived.Test.YtgdecjacbkicmaaDoorChk
import Derived.Test.YtgdecjacbkicmaaDoorOPut
import Derived.Test.YtgdecjacbkicmaaDoorArgs
import Derived.Deep.MidRow
/- Layer 10 (patch): the writer: mark, number, text. -/
namespace Go.Proofs.YtgdecjacbkicmaaDoor.Oct
open Go.RowKit
set_option maxRecDepth 100000
set_option linter.unusedSimpArgs false
set_option linter.unusedVariables false

theorem store_fn {w : World} {a : Addr} {v u : Value} (h1 : v.oneCell' = true) (hc : w.cell? a = some u) (hf : w.frozen? a = false) : (store a v).run Tryd.prog w = .ok () (w.setCell a v) := by
  simp [run_store _ _ _ _ _ h1, stored, hc, hf]
theorem info36 : (Tryd.prog.info? 28).map (·.size) = some 1 := by kernel_rfl
theorem run_st36 {w : World} {g n c : Nat} {va : Option Addr} {x dv : Value} (hb : Blk w g 48 [x, dv]) : (storeVar 28 ⟨g, 0, none⟩ (.slice va n c)).run Tryd.prog w = .ok () (w.setCell ⟨g, 0, none⟩ (.slice va n c)) := by
  have h1 := store_fn (v := .slice va n c) rfl (hb.cell (i := 0) rfl) (hb.free 0)
  obtain ⟨i, hi, hs⟩ := Option.map_eq_some_iff.1 info36
  have h2 : (store ((⟨g, 0, none⟩ : Addr).add 0) (.slice va n c)).run Tryd.prog w = .ok () (w.setCell ⟨g, 0, none⟩ (.slice va n c)) := h1
  simp [storeVar, sizeOf, typeInfo, hi, hs, Value.cells, storeCells, h2]
theorem step_st36 {ops : Array Oper} {op : Oper} {a : Act} {w : World} {K : Act → World → Prop} {Q : Exit → Act → World → Prop} {E : Prop} (hw : Region.wanted op (yielded ops a.tmps) = true) (x y : Operand) (ho : op.op = .store 28 x y)
    (g n c : Nat) (va : Option Addr) (u dv : Value) (hx : a.eval x = .pointer (some ⟨g, 0, none⟩)) (hy : a.eval y = .slice va n c) (hb : Blk w g 48 [u, dv])
    (h : K (a.put op.dst undef) (w.setCell ⟨g, 0, none⟩ (.slice va n c))) : if Region.wanted op (yielded ops a.tmps) = true then Oper.wp Tryd.prog op a w K Q else E := by
  rw [if_pos hw]
  unfold Oper.wp execOp
  simp only [ho, hx, hy, Instr.storeAt, Instr.sureAddr, Sem.run_bind, Sem.run_pure, Result.andThen_ok, run_st36 hb]
  exact h
/-- what a writer leaves as it was: what lies below B, and all but bytes and writers -/
structure Fr (B : Nat) (w w' : World) : Prop where
  os : w'.os = w.os
  tape : w'.tape = w.tape
  output : w'.output = w.output
  size : w.heap.size ≤ w'.heap.size
  low : ∀ k, k < B → w'.heap[k]? = w.heap[k]?
  typ : ∀ (k : Nat) (C : Array Value) (t : TypeId) (f : Nat × Nat), w.heap[k]? = some (.cells C t f) → t ≠ 5 → t ≠ 48 → w'.heap[k]? = w.heap[k]?
theorem Fr.refl (B : Nat) (w : World) : Fr B w w := ⟨rfl, rfl, rfl, Nat.le_refl _, fun _ _ => rfl, fun _ _ _ _ _ _ _ => rfl⟩
theorem Fr.trans {B : Nat} {a b c : World} (h : Fr B a b) (k : Fr B b c) : Fr B a c :=
  ⟨k.os.trans h.os, k.tape.trans h.tape, k.output.trans h.output, Nat.le_trans h.size k.size, fun i hi => (k.low i hi).trans (h.low i hi), fun i C t f hc h1 h2 => by
    have e := h.typ i C t f hc h1 h2
    exact (k.typ i C t f (e.trans hc) h1 h2).trans e⟩
theorem Fr.of_below {B : Nat} {w w' : World} (h : Below w.heap.size w w') (hB : B ≤ w.heap.size) : Fr B w w' :=
  ⟨h.os, h.tape, h.output, h.size, fun k hk => h.block k (Nat.lt_of_lt_of_le hk hB), fun k C t f hc _ _ => h.block k (Array.getElem?_eq_some_iff.1 hc).1⟩
theorem Fr.below {B : Nat} {w w' : World} (h : Fr B w w') : Below B w w' := ⟨h.os, h.tape, h.output, h.size, h.low⟩
theorem Fr.of_grown {B : Nat} {w w' : World} {r : Option Nat} (h : w.grownBy w' r) (hB : B ≤ w.heap.size) (hr : ∀ g, r = some g → B ≤ g ∧ ∀ C t f, w.heap[g]? = some (.cells C t f) → t = 5 ∨ t = 48) : Fr B w w' := by
  obtain ⟨a1, a2, a3, a4, a5⟩ := h
  refine ⟨a1, a2, a3, a4, fun k hk => a5 k (Nat.lt_of_lt_of_le hk hB) (fun e => by have := (hr k e.symm).1; omega), fun k C t f hc h1 h2 => a5 k (Array.getElem?_eq_some_iff.1 hc).1 (fun e => ?_)⟩
  rcases (hr k e.symm).2 C t f hc with h | h
  · exact h1 h
  · exact h2 h
theorem Blk.fr {B : Nat} {w w' : World} {d : Nat} {t : TypeId} {L : List Value} (h : Blk w d t L) (k : Fr B w w') (h1 : t ≠ 5) (h2 : t ≠ 48) : Blk w' d t L := (k.typ d _ t _ h h1 h2).trans h
theorem own_type {B : Nat} {w : World} {v : Value} {l : List UInt8} {g : Nat} (h : Own 5 B w v l) (hg : v.ownBlock = some g) : ∃ C : Array Value, w.heap[g]? = some (.cells C 5 (0, 0)) ∧ B ≤ g := by
  rcases h.2 with ⟨rfl, _⟩ | ⟨g', cap, cur, rfl, hB, hb, _⟩
  · cases hg
  · cases hg; exact ⟨cur, hb, hB⟩
theorem own_keep {B : Nat} {w w' : World} {v : Value} {l : List UInt8} (h : Own 5 B w v l) (hs : ∀ g, v.ownBlock = some g → w'.heap[g]? = w.heap[g]?) : Own 5 B w' v l := by
  obtain ⟨h1, h2⟩ := h
  refine ⟨h1, ?_⟩
  rcases h2 with h2 | ⟨g, cap, cur, rfl, e2, hg, r⟩
  · exact .inl h2
  · exact .inr ⟨g, cap, cur, rfl, e2, (hs g rfl).trans hg, r⟩
/-- a writer that wrote M -/
structure Wr (B : Nat) (w : World) (g : Nat) (dv : Value) (M : List UInt8) : Prop where
  own : ∃ (va : Option Addr) (n c : Nat), Blk w g 48 [.slice va n c, dv] ∧ Own 5 B w (.slice va n c) M
  lo : B ≤ g
theorem Wr.lt {B : Nat} {w : World} {g : Nat} {dv : Value} {M : List UInt8} (h : Wr B w g dv M) : g < w.heap.size ∧ B ≤ w.heap.size := by
  obtain ⟨_, _, _, h1, _⟩ := h.own
  exact ⟨h1.lt, by have := h1.lt; have := h.lo; omega⟩
theorem Wr.below {B : Nat} {w w' : World} {g : Nat} {dv : Value} {M : List UInt8} (h : Wr B w g dv M) (hb : Below w.heap.size w w') : Wr B w' g dv M := by
  obtain ⟨va, n, c, h1, h2⟩ := h.own
  exact ⟨⟨va, n, c, h1.below hb h1.lt, h2.below hb (Nat.le_refl _)⟩, h.lo⟩
/-- behind the append, and the store of what it tells -/
theorem Wr.put {B : Nat} {w w2 : World} {g : Nat} {dv : Value} {M M' : List UInt8} {va va' : Option Addr} {n c n' c' : Nat} (hb : Blk w g 48 [.slice va n c, dv]) (ho : Own 5 B w (.slice va n c) M) (hlo : B ≤ g) (hg : w.grownBy w2 (Value.slice va n c).ownBlock) (ho2 : Own 5 B w2 (.slice va' n' c') M') :
    Blk w2 g 48 [.slice va n c, dv] ∧ Wr B (w2.setCell ⟨g, 0, none⟩ (.slice va' n' c')) g dv M' ∧ Fr B w (w2.setCell ⟨g, 0, none⟩ (.slice va' n' c')) := by
  have hne : some g ≠ (Value.slice va n c).ownBlock := fun e => by
    obtain ⟨C, hC, _⟩ := own_type ho e.symm
    have := hC.symm.trans hb
    simp at this
  have hb2 : Blk w2 g 48 [.slice va n c, dv] := hb.kept hg hne
  have hB : B ≤ w.heap.size := by have := hb.lt; omega
  refine ⟨hb2, ⟨⟨va', n', c', hb2.set 0 _, own_keep ho2 fun k hk => ?_⟩, hlo⟩, (Fr.of_grown hg hB ?_).trans (Fr.of_grown (grown_setCell w2 g 0 _) (Nat.le_trans hB hg.size) ?_)⟩
  · refine (grown_setCell w2 g 0 _).block k ?_ ?_
    · obtain ⟨C, hC, _⟩ := own_type ho2 hk
      exact (Array.getElem?_eq_some_iff.1 hC).1
    · intro e
      cases e
      obtain ⟨C, hC, _⟩ := own_type ho2 hk
      have := hC.symm.trans hb2
      simp at this
  · intro k hk
    obtain ⟨C, hC, hBk⟩ := own_type ho hk
    refine ⟨hBk, fun C' t f h => ?_⟩
    rw [hC] at h
    cases h
    exact .inl rfl
  · intro k hk
    cases hk
    refine ⟨hlo, fun C t f h => ?_⟩
    rw [hb2] at h
    cases h
    exact .inr rfl
def WrP (B : Nat) (g : Nat) (dv : Value) (M : List UInt8) (w : World) (e : Ending) (w' : World) : Prop := (∃ v, e = .returned v) ∧ Wr B w' g dv M ∧ Fr B w w'
theorem i5 : ∃ i, Tryd.prog.info? 5 = some i ∧ i.zero = some (.int .u8 0) ∧ i.size = 1 ∧ i.bytes = 1 := by
  obtain ⟨i, hi, he⟩ := Option.map_eq_some_iff.1 info5
  simp only [Prod.mk.injEq] at he
  exact ⟨i, hi, he.1, he.2.1, he.2.2⟩
theorem sl_of5 {B : Nat} {w : World} {v : Value} {l : List UInt8} (h : Own 5 B w v l) : ∃ a n c, v = .slice a n c ∧ n = l.length := by
  rcases h.2 with ⟨rfl, h0⟩ | ⟨g, cap, cur, rfl, _⟩
  · exact ⟨_, _, _, rfl, h0.symm⟩
  · exact ⟨_, _, _, rfl, rfl⟩
set_option maxHeartbeats 2000000 in
theorem mark_is {B : Nat} {w : World} {g : Nat} {dv : Value} {M : List UInt8} (h : Wr B w g dv M) (c : UInt8) (hM : M.length ≤ 1000000) : Calls Tryd.prog 20 #[.pointer (some ⟨g, 0, none⟩), .int .u8 (c.toNat : Int)] w (WrP B g dv (M ++ [c]) w) := by
  obtain ⟨va, n, cp, hb, ho⟩ := h.own
  obtain ⟨i0, hi, hz0, hz1, hz2⟩ := i5
  have c0 : w.cell? ⟨g, 0, none⟩ = some (.slice va n cp) := hb.cell rfl
  have HB : Hid (Blk w g 48 [.slice va n cp, dv] ∧ Own 5 B w (.slice va n cp) M ∧ B ≤ g ∧ M.length ≤ 1000000) := ⟨hb, ho, h.lo, hM⟩
  obtain ⟨W1, hW1⟩ : ∃ W, w.alloc (.cells #[.int .u8 (c.toNat : Int)] 5) = W := ⟨_, rfl⟩
  obtain ⟨r, hr⟩ : ∃ r, w.heap.size = r := ⟨_, rfl⟩
  have HI : Hid (In W1 (some ⟨r, 0, none⟩) 1 1 [c] ∧ Below w.heap.size w W1) := by
    refine ⟨?_, by rw [← hW1]; exact below_al _ _⟩
    rw [← hW1, ← hr]
    exact in_new w 5 [c] (by simp)
  clear h hb ho hM
  go_enter Tryd.func20, Tryd.ntmps20
  go_wp2_with (with_reducible change wpList _ _ _ ({ dst := some 11, op := _, type := _, pos := _, after := _, guard := _ } :: _) _ _; refine Hid.out ?_)
  show wpList _ _ _ _ _ _
  refine wpList_append_in W1 rfl (.tmp 8) (.tmp 10) 28 rfl B 5 i0 Tryd.underlying28 hi hz0 hz1 hz2 (.slice va n cp) M M.length rfl rfl (HB.out.2.1.below HI.out.2 (Nat.le_refl _)) (some ⟨r, 0, none⟩) 1 1 [c] rfl HI.out.1 (by have := HB.out.2.2.2; omega) (by have := HB.out.1.lt; have := HI.out.2.size; have := HB.out.2.2.1; omega) ?_
  intro v2 W2 ho2 hg2
  obtain ⟨va2, n2, c2, rfl, -⟩ := sl_of5 ho2
  have HP := Wr.put (HB.out.1.below HI.out.2 HB.out.1.lt) (HB.out.2.1.below HI.out.2 (Nat.le_refl _)) HB.out.2.2.1 hg2 ho2
  have HF : Hid (Wr B (W2.setCell ⟨g, 0, none⟩ (.slice va2 n2 c2)) g dv (M ++ [c]) ∧ Fr B w (W2.setCell ⟨g, 0, none⟩ (.slice va2 n2 c2))) := ⟨HP.2.1, (Fr.of_below HI.out.2 (by have := HB.out.1.lt; have := HB.out.2.2.1; omega)).trans HP.2.2⟩
  have d0 : W2.cell? ⟨g, 0, none⟩ = some (.slice va n cp) := HP.1.cell rfl
  have f0 := HP.1.free 0
  clear HP ho2 hg2 c0 hW1 hr
  go_wp2
  go_end0
  exact ⟨⟨_, rfl⟩, HF.out.1, HF.out.2⟩
end Go.Proofs.YtgdecjacbkicmaaDoor.Oct

/- Layer 10 (patch): the writer: text and number. -/
namespace Go.Proofs.YtgdecjacbkicmaaDoor.Oct
open Go.RowKit
set_option maxRecDepth 100000
set_option linter.unusedSimpArgs false
set_option linter.unusedVariables false

theorem fr_own {B : Nat} {w w2 : World} {v : Value} {M : List UInt8} (ho : Own 5 B w v M) (hg : w.grownBy w2 v.ownBlock) (hB : B ≤ w.heap.size) : Fr B w w2 := by
  refine Fr.of_grown hg hB fun k hk => ?_
  obtain ⟨C, hC, hBk⟩ := own_type ho hk
  refine ⟨hBk, fun C' t f h => ?_⟩
  rw [hC] at h
  cases h
  exact .inl rfl
def encT (s : BA) : List UInt8 := enc s.size ++ s.data.toList
set_option maxRecDepth 100000 in
set_option maxHeartbeats 4000000 in
theorem tx62 {Q : Exit → Act → World → Prop} {x2 x3 x4 x5 x6 x7 x8 x9 x10 x11 x12 x13 : Value} {ds : List Deferred} {A : World} {B g n c tn : Nat} {s : BA} {va : Option Addr} {dv : Value} {M T : List UInt8} {i0 : TypeInfo}
    (HI5 : Hid (Tryd.prog.info? 5 = some i0 ∧ i0.zero = some (.int .u8 0) ∧ i0.size = 1 ∧ i0.bytes = 1)) (HX : Hid (B ≤ g ∧ B ≤ A.heap.size ∧ M.length + tn ≤ 140737488355328)) (HG : Hid (Blk A g 48 [.slice va n c, dv] ∧ Own 5 B A (.slice va n c) M)) (HC : Hid (∀ V, Calls Tryd.prog 41 #[.slice none 0 0, .string s] V fun e V2 => ∃ tg tc, e = .returned (.slice (some ⟨tg, 0, none⟩) tn tc) ∧ Hid (In V2 (some ⟨tg, 0, none⟩) tn tc T) ∧ Below V.heap.size V V2))
    (hQ : ∀ V1 tg tc va2 n2 c2, Wr B V1 g dv (M ++ T) → Fr B A V1 → Q .normal { tmps := #[.pointer (some ⟨g, 0, none⟩), .string s, x2, x3, .pointer (some ⟨g, 0, none⟩), .pointer (some ⟨g, 0, none⟩), .pointer (some ⟨g, 0, none⟩), .pointer (some ⟨g, 0, none⟩), .slice va n c, .string s, .slice (some ⟨tg, 0, none⟩) tn tc, .slice va2 n2 c2, .pointer (some ⟨g, 0, none⟩), .pointer (some ⟨g, 0, none⟩)], defers := ds } V1) :
    (Code.region 0 #[{ dst := some 4, op := Op.move (Operand.tmp 0), type := 55, pos := "code.go:29", after := #[], guard := none }, { dst := some 5, op := Op.move (Operand.tmp 0), type := 55, pos := "code.go:29", after := #[], guard := none }, { dst := some 6, op := Op.nilCheck (Operand.tmp 5), type := 0, pos := "code.go:29", after := #[{ on := 1, ground := Ground.data }], guard := none }, { dst := some 7, op := Op.fieldAddr 48 (Operand.tmp 6) 0, type := 0, pos := "code.go:29", after := #[{ on := 2, ground := Ground.data }], guard := none }, { dst := some 8, op := Op.load 28 (Operand.tmp 7), type := 28, pos := "code.go:29", after := #[{ on := 3, ground := Ground.data }], guard := none }, { dst := some 9, op := Op.move (Operand.tmp 1), type := 9, pos := "code.go:29", after := #[], guard := none }, { dst := some 10, op := Op.call { callee := Callee.value (Operand.func 41), args := #[Operand.const (Value.slice none 0 0), Operand.tmp 9], argTypes := #[28, 9] }, type := 28, pos := "code.go:29", after := #[{ on := 5, ground := Ground.data }], guard := none }, { dst := some 11, op := Op.call { callee := Callee.builtin Builtin.append, args := #[Operand.tmp 8, Operand.tmp 10], argTypes := #[28, 28] }, type := 28, pos := "code.go:29", after := #[{ on := 4, ground := Ground.data }, { on := 6, ground := Ground.data }, { on := 6, ground := Ground.chain }], guard := none }, { dst := some 12, op := Op.nilCheck (Operand.tmp 4), type := 0, pos := "code.go:29", after := #[{ on := 0, ground := Ground.data }, { on := 0, ground := Ground.phase }, { on := 1, ground := Ground.phase }, { on := 2, ground := Ground.phase }, { on := 3, ground := Ground.phase }, { on := 4, ground := Ground.phase }, { on := 5, ground := Ground.phase }, { on := 6, ground := Ground.phase }, { on := 7, ground := Ground.phase }], guard := none }, { dst := some 13, op := Op.fieldAddr 48 (Operand.tmp 12) 0, type := 0, pos := "code.go:29", after := #[{ on := 8, ground := Ground.data }, { on := 0, ground := Ground.phase }, { on := 1, ground := Ground.phase }, { on := 2, ground := Ground.phase }, { on := 3, ground := Ground.phase }, { on := 4, ground := Ground.phase }, { on := 5, ground := Ground.phase }, { on := 6, ground := Ground.phase }, { on := 7, ground := Ground.phase }], guard := none }, { dst := none, op := Op.store 28 (Operand.tmp 13) (Operand.tmp 11), type := 0, pos := "code.go:29", after := #[{ on := 9, ground := Ground.data }, { on := 7, ground := Ground.data }, { on := 7, ground := Ground.chain }, { on := 0, ground := Ground.phase }, { on := 1, ground := Ground.phase }, { on := 2, ground := Ground.phase }, { on := 3, ground := Ground.phase }, { on := 4, ground := Ground.phase }, { on := 5, ground := Ground.phase }, { on := 6, ground := Ground.phase }, { on := 7, ground := Ground.phase }], guard := none }] true).wp Tryd.prog Q { tmps := #[.pointer (some ⟨g, 0, none⟩), .string s, x2, x3, x4, x5, x6, x7, x8, x9, x10, x11, x12, x13], defers := ds } A := by
  refine Code.wp_mono (Q := fun x a' w' => match x with | .normal => Q .normal a' w' | _ => False) (by intro x a' w' h; cases x <;> first | exact h | exact h.elim) ?_
  refine wp_region_held (S := fun V => Fr B A V) (by kernel_rfl) ?_
  have hS0 : Hid (Fr B A A.drew) := Fr.of_below (below_drew0 A) HX.out.2.1
  change wpAnyH Tryd.prog .any _ _ (fun V => Fr B A V) 11 (Array.replicate 11 false) _ A.drew
  obtain ⟨V0, hV0⟩ : ∃ V0, A.drew = V0 := ⟨_, rfl⟩
  rw [hV0]
  rw [hV0] at hS0
  have hG0 : Hid (Blk V0 g 48 [.slice va n c, dv] ∧ Own 5 B V0 (.slice va n c) M) := by rw [← hV0]; exact HG.out
  clear hV0
  refine wpAnyH_take (i := 0) (oi := { dst := some 4, op := Op.move (Operand.tmp 0), type := 55, pos := "code.go:29", after := #[], guard := none }) (v := .pointer (some ⟨g, 0, none⟩)) rfl (by kernel_rfl) (by kernel_rfl) (by kernel_rfl) (fun _ _ _ h => h.elim) (Or.inl ⟨by rfl, ?y1⟩) hS0.out ?_
  case y1 =>
    intro V hV
    go_simp
  simp only [Act.put, List.setIfInBounds_toArray, List.set_cons_zero, List.set_cons_succ]
  refine wpAnyH_take (i := 1) (oi := { dst := some 5, op := Op.move (Operand.tmp 0), type := 55, pos := "code.go:29", after := #[], guard := none }) (v := .pointer (some ⟨g, 0, none⟩)) rfl (by kernel_rfl) (by kernel_rfl) (by kernel_rfl) (fun _ _ _ h => h.elim) (Or.inl ⟨by rfl, ?y2⟩) hS0.out ?_
  case y2 =>
    intro V hV
    go_simp
  simp only [Act.put, List.setIfInBounds_toArray, List.set_cons_zero, List.set_cons_succ]
  refine wpAnyH_take (i := 2) (oi := { dst := some 6, op := Op.nilCheck (Operand.tmp 5), type := 0, pos := "code.go:29", after := #[{ on := 1, ground := Ground.data }], guard := none }) (v := .pointer (some ⟨g, 0, none⟩)) rfl (by kernel_rfl) (by kernel_rfl) (by kernel_rfl) (fun _ _ _ h => h.elim) (Or.inl ⟨by rfl, ?y3⟩) hS0.out ?_
  case y3 =>
    intro V hV
    go_simp
  simp only [Act.put, List.setIfInBounds_toArray, List.set_cons_zero, List.set_cons_succ]
  refine wpAnyH_take (i := 3) (oi := { dst := some 7, op := Op.fieldAddr 48 (Operand.tmp 6) 0, type := 0, pos := "code.go:29", after := #[{ on := 2, ground := Ground.data }], guard := none }) (v := .pointer (some ⟨g, 0, none⟩)) rfl (by kernel_rfl) (by kernel_rfl) (by kernel_rfl) (fun _ _ _ h => h.elim) (Or.inl ⟨by rfl, ?y4⟩) hS0.out ?_
  case y4 =>
    intro V hV
    go_simp
  simp only [Act.put, List.setIfInBounds_toArray, List.set_cons_zero, List.set_cons_succ]
  refine wpAnyH_take (i := 5) (oi := { dst := some 9, op := Op.move (Operand.tmp 1), type := 9, pos := "code.go:29", after := #[], guard := none }) (v := .string s) rfl (by kernel_rfl) (by kernel_rfl) (by kernel_rfl) (fun _ _ _ h => h.elim) (Or.inl ⟨by rfl, ?y5⟩) hS0.out ?_
  case y5 =>
    intro V hV
    go_simp
  simp only [Act.put, List.setIfInBounds_toArray, List.set_cons_zero, List.set_cons_succ]
  refine wpAnyH_ready (rs := [4, 6]) (by kernel_rfl) (by simp) (AllReadyH.cons (i := 4) (o := { dst := some 8, op := Op.load 28 (Operand.tmp 7), type := 28, pos := "code.go:29", after := #[{ on := 3, ground := Ground.data }], guard := none }) rfl ?_ (AllReadyH.cons (i := 6) (o := { dst := some 10, op := Op.call { callee := Callee.value (Operand.func 41), args := #[Operand.const (Value.slice none 0 0), Operand.tmp 9], argTypes := #[28, 9] }, type := 28, pos := "code.go:29", after := #[{ on := 5, ground := Ground.data }], guard := none }) rfl ?_ AllReadyH.nil))
  · intro K1 hK1
    rw [if_pos (by rfl)]
    have hc1 : V0.cell? ⟨g, 0, none⟩ = some (.slice va n c) := hG0.out.1.cell rfl
    go_wp2
    clear hc1
    refine hK1.out _ _ hS0.out ?_
    clear hK1
    intro _
    try simp only [Act.put, List.setIfInBounds_toArray, List.set_cons_zero, List.set_cons_succ]
    refine wpAnyH_ready (rs := [6]) (by kernel_rfl) (by simp) (AllReadyH.cons (i := 6) (o := { dst := some 10, op := Op.call { callee := Callee.value (Operand.func 41), args := #[Operand.const (Value.slice none 0 0), Operand.tmp 9], argTypes := #[28, 9] }, type := 28, pos := "code.go:29", after := #[{ on := 5, ground := Ground.data }], guard := none }) rfl ?_ AllReadyH.nil)
    · intro K1 hK1
      rw [if_pos (by rfl)]
      have HC2 := HC.out V0
      go_wp2_with fail
      refine HC2.mono ?_
      rintro e V2 ⟨tg, tc, rfl, hT2, hb2⟩
      dsimp only
      clear HC2
      have hS2 : Hid (Fr B A V2) := hS0.out.trans (Fr.of_below hb2 (Nat.le_trans HX.out.2.1 hS0.out.size))
      have hG2 : Hid (Blk V2 g 48 [.slice va n c, dv] ∧ Own 5 B V2 (.slice va n c) M) := ⟨hG0.out.1.below hb2 hG0.out.1.lt, hG0.out.2.below hb2 (Nat.le_refl _)⟩
      clear hb2
      refine hK1.out _ _ hS2.out ?_
      clear hK1
      intro _
      try simp only [Act.put, List.setIfInBounds_toArray, List.set_cons_zero, List.set_cons_succ]
      refine wpAnyH_ready (rs := [7]) (by kernel_rfl) (by simp) (AllReadyH.cons (i := 7) (o := { dst := some 11, op := Op.call { callee := Callee.builtin Builtin.append, args := #[Operand.tmp 8, Operand.tmp 10], argTypes := #[28, 28] }, type := 28, pos := "code.go:29", after := #[{ on := 4, ground := Ground.data }, { on := 6, ground := Ground.data }, { on := 6, ground := Ground.chain }], guard := none }) rfl ?_ AllReadyH.nil)
      · intro K1 hK1
        refine step_append_in V2 (by rfl) (.tmp 8) (.tmp 10) 28 rfl B 5 i0 Tryd.underlying28 HI5.out.1 HI5.out.2.1 HI5.out.2.2.1 HI5.out.2.2.2 (.slice va n c) M M.length rfl rfl hG2.out.2 (some ⟨tg, 0, none⟩) tn tc T rfl hT2.out (by have := HX.out.2.2; omega) (Nat.le_trans HX.out.2.1 hS2.out.size) ?_
        intro v5 V3 ho5 hg5
        obtain ⟨va2, n2, c2, rfl, -⟩ := sl_of5 ho5
        have hS3 : Hid (Fr B A V3) := hS2.out.trans (fr_own hG2.out.2 hg5 (Nat.le_trans HX.out.2.1 hS2.out.size))
        have hP3 : Hid (Blk V3 g 48 [.slice va n c, dv] ∧ Wr B (V3.setCell ⟨g, 0, none⟩ (.slice va2 n2 c2)) g dv (M ++ T) ∧ Fr B A (V3.setCell ⟨g, 0, none⟩ (.slice va2 n2 c2))) := ⟨(Wr.put hG2.out.1 hG2.out.2 HX.out.1 hg5 ho5).1, (Wr.put hG2.out.1 hG2.out.2 HX.out.1 hg5 ho5).2.1, hS2.out.trans (Wr.put hG2.out.1 hG2.out.2 HX.out.1 hg5 ho5).2.2⟩
        clear ho5 hg5
        refine hK1.out _ _ hS3.out ?_
        clear hK1
        intro _
        try simp only [Act.put, List.setIfInBounds_toArray, List.set_cons_zero, List.set_cons_succ]
        refine wpAnyH_take (i := 8) (oi := { dst := some 12, op := Op.nilCheck (Operand.tmp 4), type := 0, pos := "code.go:29", after := #[{ on := 0, ground := Ground.data }, { on := 0, ground := Ground.phase }, { on := 1, ground := Ground.phase }, { on := 2, ground := Ground.phase }, { on := 3, ground := Ground.phase }, { on := 4, ground := Ground.phase }, { on := 5, ground := Ground.phase }, { on := 6, ground := Ground.phase }, { on := 7, ground := Ground.phase }], guard := none }) (v := .pointer (some ⟨g, 0, none⟩)) rfl (by kernel_rfl) (by kernel_rfl) (by kernel_rfl) (fun _ _ _ h => h.elim) (Or.inl ⟨by rfl, ?y6⟩) hS3.out ?_
        case y6 =>
          intro V hV
          go_simp
        simp only [Act.put, List.setIfInBounds_toArray, List.set_cons_zero, List.set_cons_succ]
        refine wpAnyH_take (i := 9) (oi := { dst := some 13, op := Op.fieldAddr 48 (Operand.tmp 12) 0, type := 0, pos := "code.go:29", after := #[{ on := 8, ground := Ground.data }, { on := 0, ground := Ground.phase }, { on := 1, ground := Ground.phase }, { on := 2, ground := Ground.phase }, { on := 3, ground := Ground.phase }, { on := 4, ground := Ground.phase }, { on := 5, ground := Ground.phase }, { on := 6, ground := Ground.phase }, { on := 7, ground := Ground.phase }], guard := none }) (v := .pointer (some ⟨g, 0, none⟩)) rfl (by kernel_rfl) (by kernel_rfl) (by kernel_rfl) (fun _ _ _ h => h.elim) (Or.inl ⟨by rfl, ?y7⟩) hS3.out ?_
        case y7 =>
          intro V hV
          go_simp
        simp only [Act.put, List.setIfInBounds_toArray, List.set_cons_zero, List.set_cons_succ]
        refine wpAnyH_ready (rs := [10]) (by kernel_rfl) (by simp) (AllReadyH.cons (i := 10) (o := { dst := none, op := Op.store 28 (Operand.tmp 13) (Operand.tmp 11), type := 0, pos := "code.go:29", after := #[{ on := 9, ground := Ground.data }, { on := 7, ground := Ground.data }, { on := 7, ground := Ground.chain }, { on := 0, ground := Ground.phase }, { on := 1, ground := Ground.phase }, { on := 2, ground := Ground.phase }, { on := 3, ground := Ground.phase }, { on := 4, ground := Ground.phase }, { on := 5, ground := Ground.phase }, { on := 6, ground := Ground.phase }, { on := 7, ground := Ground.phase }], guard := none }) rfl ?_ AllReadyH.nil)
        · intro K1 hK1
          refine step_st36 (by rfl) (.tmp 13) (.tmp 11) rfl g n2 c2 va2 (.slice va n c) dv rfl rfl hP3.out.1 ?_
          obtain ⟨V4, hv4⟩ : ∃ V, V3.setCell ⟨g, 0, none⟩ (.slice va2 n2 c2) = V := ⟨_, rfl⟩
          have hF4 : Hid (Wr B V4 g dv (M ++ T) ∧ Fr B A V4) := by have h := hP3.out.2; rw [hv4] at h; exact h
          rw [hv4]
          refine hK1.out _ _ hF4.out.2 ?_
          clear hK1
          intro _
          try simp only [Act.put, List.setIfInBounds_toArray, List.set_cons_zero, List.set_cons_succ]
          refine wpAnyH_done (by kernel_rfl) ?_ _
          exact hQ V4 tg tc va2 n2 c2 hF4.out.1 hF4.out.2
  · intro K1 hK1
    rw [if_pos (by rfl)]
    have HC1 := HC.out V0
    go_wp2_with fail
    refine HC1.mono ?_
    rintro e V1 ⟨tg, tc, rfl, hT1, hb1⟩
    dsimp only
    clear HC1
    have hS1 : Hid (Fr B A V1) := hS0.out.trans (Fr.of_below hb1 (Nat.le_trans HX.out.2.1 hS0.out.size))
    have hG1 : Hid (Blk V1 g 48 [.slice va n c, dv] ∧ Own 5 B V1 (.slice va n c) M) := ⟨hG0.out.1.below hb1 hG0.out.1.lt, hG0.out.2.below hb1 (Nat.le_refl _)⟩
    clear hb1
    refine hK1.out _ _ hS1.out ?_
    clear hK1
    intro _
    try simp only [Act.put, List.setIfInBounds_toArray, List.set_cons_zero, List.set_cons_succ]
    refine wpAnyH_ready (rs := [4]) (by kernel_rfl) (by simp) (AllReadyH.cons (i := 4) (o := { dst := some 8, op := Op.load 28 (Operand.tmp 7), type := 28, pos := "code.go:29", after := #[{ on := 3, ground := Ground.data }], guard := none }) rfl ?_ AllReadyH.nil)
    · intro K1 hK1
      rw [if_pos (by rfl)]
      have hc2 : V1.cell? ⟨g, 0, none⟩ = some (.slice va n c) := hG1.out.1.cell rfl
      go_wp2
      clear hc2
      refine hK1.out _ _ hS1.out ?_
      clear hK1
      intro _
      try simp only [Act.put, List.setIfInBounds_toArray, List.set_cons_zero, List.set_cons_succ]
      refine wpAnyH_ready (rs := [7]) (by kernel_rfl) (by simp) (AllReadyH.cons (i := 7) (o := { dst := some 11, op := Op.call { callee := Callee.builtin Builtin.append, args := #[Operand.tmp 8, Operand.tmp 10], argTypes := #[28, 28] }, type := 28, pos := "code.go:29", after := #[{ on := 4, ground := Ground.data }, { on := 6, ground := Ground.data }, { on := 6, ground := Ground.chain }], guard := none }) rfl ?_ AllReadyH.nil)
      · intro K1 hK1
        refine step_append_in V1 (by rfl) (.tmp 8) (.tmp 10) 28 rfl B 5 i0 Tryd.underlying28 HI5.out.1 HI5.out.2.1 HI5.out.2.2.1 HI5.out.2.2.2 (.slice va n c) M M.length rfl rfl hG1.out.2 (some ⟨tg, 0, none⟩) tn tc T rfl hT1.out (by have := HX.out.2.2; omega) (Nat.le_trans HX.out.2.1 hS1.out.size) ?_
        intro v5 V3 ho5 hg5
        obtain ⟨va2, n2, c2, rfl, -⟩ := sl_of5 ho5
        have hS3 : Hid (Fr B A V3) := hS1.out.trans (fr_own hG1.out.2 hg5 (Nat.le_trans HX.out.2.1 hS1.out.size))
        have hP3 : Hid (Blk V3 g 48 [.slice va n c, dv] ∧ Wr B (V3.setCell ⟨g, 0, none⟩ (.slice va2 n2 c2)) g dv (M ++ T) ∧ Fr B A (V3.setCell ⟨g, 0, none⟩ (.slice va2 n2 c2))) := ⟨(Wr.put hG1.out.1 hG1.out.2 HX.out.1 hg5 ho5).1, (Wr.put hG1.out.1 hG1.out.2 HX.out.1 hg5 ho5).2.1, hS1.out.trans (Wr.put hG1.out.1 hG1.out.2 HX.out.1 hg5 ho5).2.2⟩
        clear ho5 hg5
        refine hK1.out _ _ hS3.out ?_
        clear hK1
        intro _
        try simp only [Act.put, List.setIfInBounds_toArray, List.set_cons_zero, List.set_cons_succ]
        refine wpAnyH_take (i := 8) (oi := { dst := some 12, op := Op.nilCheck (Operand.tmp 4), type := 0, pos := "code.go:29", after := #[{ on := 0, ground := Ground.data }, { on := 0, ground := Ground.phase }, { on := 1, ground := Ground.phase }, { on := 2, ground := Ground.phase }, { on := 3, ground := Ground.phase }, { on := 4, ground := Ground.phase }, { on := 5, ground := Ground.phase }, { on := 6, ground := Ground.phase }, { on := 7, ground := Ground.phase }], guard := none }) (v := .pointer (some ⟨g, 0, none⟩)) rfl (by kernel_rfl) (by kernel_rfl) (by kernel_rfl) (fun _ _ _ h => h.elim) (Or.inl ⟨by rfl, ?y8⟩) hS3.out ?_
        case y8 =>
          intro V hV
          go_simp
        simp only [Act.put, List.setIfInBounds_toArray, List.set_cons_zero, List.set_cons_succ]
        refine wpAnyH_take (i := 9) (oi := { dst := some 13, op := Op.fieldAddr 48 (Operand.tmp 12) 0, type := 0, pos := "code.go:29", after := #[{ on := 8, ground := Ground.data }, { on := 0, ground := Ground.phase }, { on := 1, ground := Ground.phase }, { on := 2, ground := Ground.phase }, { on := 3, ground := Ground.phase }, { on := 4, ground := Ground.phase }, { on := 5, ground := Ground.phase }, { on := 6, ground := Ground.phase }, { on := 7, ground := Ground.phase }], guard := none }) (v := .pointer (some ⟨g, 0, none⟩)) rfl (by kernel_rfl) (by kernel_rfl) (by kernel_rfl) (fun _ _ _ h => h.elim) (Or.inl ⟨by rfl, ?y9⟩) hS3.out ?_
        case y9 =>
          intro V hV
          go_simp
        simp only [Act.put, List.setIfInBounds_toArray, List.set_cons_zero, List.set_cons_succ]
        refine wpAnyH_ready (rs := [10]) (by kernel_rfl) (by simp) (AllReadyH.cons (i := 10) (o := { dst := none, op := Op.store 28 (Operand.tmp 13) (Operand.tmp 11), type := 0, pos := "code.go:29", after := #[{ on := 9, ground := Ground.data }, { on := 7, ground := Ground.data }, { on := 7, ground := Ground.chain }, { on := 0, ground := Ground.phase }, { on := 1, ground := Ground.phase }, { on := 2, ground := Ground.phase }, { on := 3, ground := Ground.phase }, { on := 4, ground := Ground.phase }, { on := 5, ground := Ground.phase }, { on := 6, ground := Ground.phase }, { on := 7, ground := Ground.phase }], guard := none }) rfl ?_ AllReadyH.nil)
        · intro K1 hK1
          refine step_st36 (by rfl) (.tmp 13) (.tmp 11) rfl g n2 c2 va2 (.slice va n c) dv rfl rfl hP3.out.1 ?_
          obtain ⟨V4, hv4⟩ : ∃ V, V3.setCell ⟨g, 0, none⟩ (.slice va2 n2 c2) = V := ⟨_, rfl⟩
          have hF4 : Hid (Wr B V4 g dv (M ++ T) ∧ Fr B A V4) := by have h := hP3.out.2; rw [hv4] at h; exact h
          rw [hv4]
          refine hK1.out _ _ hF4.out.2 ?_
          clear hK1
          intro _
          try simp only [Act.put, List.setIfInBounds_toArray, List.set_cons_zero, List.set_cons_succ]
          refine wpAnyH_done (by kernel_rfl) ?_ _
          exact hQ V4 tg tc va2 n2 c2 hF4.out.1 hF4.out.2
set_option maxRecDepth 100000 in
set_option maxHeartbeats 4000000 in
theorem nu63 {Q : Exit → Act → World → Prop} {x2 x3 x4 x5 x6 x7 x8 x9 x10 x11 x12 x13 x14 : Value} {ds : List Deferred} {A : World} {B g n c tn k : Nat} {va : Option Addr} {dv : Value} {M T : List UInt8} {i0 : TypeInfo}
    (qk : IntKind.u64.wrap (k : Int) = (k : Int)) (HI5 : Hid (Tryd.prog.info? 5 = some i0 ∧ i0.zero = some (.int .u8 0) ∧ i0.size = 1 ∧ i0.bytes = 1)) (HX : Hid (B ≤ g ∧ B ≤ A.heap.size ∧ M.length + tn ≤ 140737488355328)) (HG : Hid (Blk A g 48 [.slice va n c, dv] ∧ Own 5 B A (.slice va n c) M)) (HC : Hid (∀ V, Calls Tryd.prog 42 #[.slice none 0 0, .int .u64 (k : Int)] V fun e V2 => ∃ tg tc, e = .returned (.slice (some ⟨tg, 0, none⟩) tn tc) ∧ Hid (In V2 (some ⟨tg, 0, none⟩) tn tc T) ∧ Below V.heap.size V V2))
    (hQ : ∀ V1 tg tc va2 n2 c2, Wr B V1 g dv (M ++ T) → Fr B A V1 → Q .normal { tmps := #[.pointer (some ⟨g, 0, none⟩), iv (k : Int), x2, x3, .pointer (some ⟨g, 0, none⟩), .pointer (some ⟨g, 0, none⟩), .pointer (some ⟨g, 0, none⟩), .pointer (some ⟨g, 0, none⟩), .slice va n c, iv (k : Int), .int .u64 (k : Int), .slice (some ⟨tg, 0, none⟩) tn tc, .slice va2 n2 c2, .pointer (some ⟨g, 0, none⟩), .pointer (some ⟨g, 0, none⟩)], defers := ds } V1) :
    (Code.region 0 #[{ dst := some 4, op := Op.move (Operand.tmp 0), type := 55, pos := "code.go:27", after := #[], guard := none }, { dst := some 5, op := Op.move (Operand.tmp 0), type := 55, pos := "code.go:27", after := #[], guard := none }, { dst := some 6, op := Op.nilCheck (Operand.tmp 5), type := 0, pos := "code.go:27", after := #[{ on := 1, ground := Ground.data }], guard := none }, { dst := some 7, op := Op.fieldAddr 48 (Operand.tmp 6) 0, type := 0, pos := "code.go:27", after := #[{ on := 2, ground := Ground.data }], guard := none }, { dst := some 8, op := Op.load 28 (Operand.tmp 7), type := 28, pos := "code.go:27", after := #[{ on := 3, ground := Ground.data }], guard := none }, { dst := some 9, op := Op.move (Operand.tmp 1), type := 3, pos := "code.go:27", after := #[], guard := none }, { dst := some 10, op := Op.convert 3 65 (Operand.tmp 9), type := 65, pos := "code.go:27", after := #[{ on := 5, ground := Ground.data }], guard := none }, { dst := some 11, op := Op.call { callee := Callee.value (Operand.func 42), args := #[Operand.const (Value.slice none 0 0), Operand.tmp 10], argTypes := #[28, 65] }, type := 28, pos := "code.go:27", after := #[{ on := 6, ground := Ground.data }], guard := none }, { dst := some 12, op := Op.call { callee := Callee.builtin Builtin.append, args := #[Operand.tmp 8, Operand.tmp 11], argTypes := #[28, 28] }, type := 28, pos := "code.go:27", after := #[{ on := 4, ground := Ground.data }, { on := 7, ground := Ground.data }, { on := 7, ground := Ground.chain }], guard := none }, { dst := some 13, op := Op.nilCheck (Operand.tmp 4), type := 0, pos := "code.go:27", after := #[{ on := 0, ground := Ground.data }, { on := 0, ground := Ground.phase }, { on := 1, ground := Ground.phase }, { on := 2, ground := Ground.phase }, { on := 3, ground := Ground.phase }, { on := 4, ground := Ground.phase }, { on := 5, ground := Ground.phase }, { on := 6, ground := Ground.phase }, { on := 7, ground := Ground.phase }, { on := 8, ground := Ground.phase }], guard := none }, { dst := some 14, op := Op.fieldAddr 48 (Operand.tmp 13) 0, type := 0, pos := "code.go:27", after := #[{ on := 9, ground := Ground.data }, { on := 0, ground := Ground.phase }, { on := 1, ground := Ground.phase }, { on := 2, ground := Ground.phase }, { on := 3, ground := Ground.phase }, { on := 4, ground := Ground.phase }, { on := 5, ground := Ground.phase }, { on := 6, ground := Ground.phase }, { on := 7, ground := Ground.phase }, { on := 8, ground := Ground.phase }], guard := none }, { dst := none, op := Op.store 28 (Operand.tmp 14) (Operand.tmp 12), type := 0, pos := "code.go:27", after := #[{ on := 10, ground := Ground.data }, { on := 8, ground := Ground.data }, { on := 8, ground := Ground.chain }, { on := 0, ground := Ground.phase }, { on := 1, ground := Ground.phase }, { on := 2, ground := Ground.phase }, { on := 3, ground := Ground.phase }, { on := 4, ground := Ground.phase }, { on := 5, ground := Ground.phase }, { on := 6, ground := Ground.phase }, { on := 7, ground := Ground.phase }, { on := 8, ground := Ground.phase }], guard := none }] true).wp Tryd.prog Q { tmps := #[.pointer (some ⟨g, 0, none⟩), iv (k : Int), x2, x3, x4, x5, x6, x7, x8, x9, x10, x11, x12, x13, x14], defers := ds } A := by
  refine Code.wp_mono (Q := fun x a' w' => match x with | .normal => Q .normal a' w' | _ => False) (by intro x a' w' h; cases x <;> first | exact h | exact h.elim) ?_
  refine wp_region_held (S := fun V => Fr B A V) (by kernel_rfl) ?_
  have hS0 : Hid (Fr B A A.drew) := Fr.of_below (below_drew0 A) HX.out.2.1
  change wpAnyH Tryd.prog .any _ _ (fun V => Fr B A V) 12 (Array.replicate 12 false) _ A.drew
  obtain ⟨V0, hV0⟩ : ∃ V0, A.drew = V0 := ⟨_, rfl⟩
  rw [hV0]
  rw [hV0] at hS0
  have hG0 : Hid (Blk V0 g 48 [.slice va n c, dv] ∧ Own 5 B V0 (.slice va n c) M) := by rw [← hV0]; exact HG.out
  clear hV0
  refine wpAnyH_take (i := 0) (oi := { dst := some 4, op := Op.move (Operand.tmp 0), type := 55, pos := "code.go:27", after := #[], guard := none }) (v := .pointer (some ⟨g, 0, none⟩)) rfl (by kernel_rfl) (by kernel_rfl) (by kernel_rfl) (fun _ _ _ h => h.elim) (Or.inl ⟨by rfl, ?y1⟩) hS0.out ?_
  case y1 =>
    intro V hV
    go_simp
  simp only [Act.put, List.setIfInBounds_toArray, List.set_cons_zero, List.set_cons_succ]
  refine wpAnyH_take (i := 1) (oi := { dst := some 5, op := Op.move (Operand.tmp 0), type := 55, pos := "code.go:27", after := #[], guard := none }) (v := .pointer (some ⟨g, 0, none⟩)) rfl (by kernel_rfl) (by kernel_rfl) (by kernel_rfl) (fun _ _ _ h => h.elim) (Or.inl ⟨by rfl, ?y2⟩) hS0.out ?_
  case y2 =>
    intro V hV
    go_simp
  simp only [Act.put, List.setIfInBounds_toArray, List.set_cons_zero, List.set_cons_succ]
  refine wpAnyH_take (i := 2) (oi := { dst := some 6, op := Op.nilCheck (Operand.tmp 5), type := 0, pos := "code.go:27", after := #[{ on := 1, ground := Ground.data }], guard := none }) (v := .pointer (some ⟨g, 0, none⟩)) rfl (by kernel_rfl) (by kernel_rfl) (by kernel_rfl) (fun _ _ _ h => h.elim) (Or.inl ⟨by rfl, ?y3⟩) hS0.out ?_
  case y3 =>
    intro V hV
    go_simp
  simp only [Act.put, List.setIfInBounds_toArray, List.set_cons_zero, List.set_cons_succ]
  refine wpAnyH_take (i := 3) (oi := { dst := some 7, op := Op.fieldAddr 48 (Operand.tmp 6) 0, type := 0, pos := "code.go:27", after := #[{ on := 2, ground := Ground.data }], guard := none }) (v := .pointer (some ⟨g, 0, none⟩)) rfl (by kernel_rfl) (by kernel_rfl) (by kernel_rfl) (fun _ _ _ h => h.elim) (Or.inl ⟨by rfl, ?y4⟩) hS0.out ?_
  case y4 =>
    intro V hV
    go_simp
  simp only [Act.put, List.setIfInBounds_toArray, List.set_cons_zero, List.set_cons_succ]
  refine wpAnyH_take (i := 5) (oi := { dst := some 9, op := Op.move (Operand.tmp 1), type := 3, pos := "code.go:27", after := #[], guard := none }) (v := iv (k : Int)) rfl (by kernel_rfl) (by kernel_rfl) (by kernel_rfl) (fun _ _ _ h => h.elim) (Or.inl ⟨by rfl, ?y5⟩) hS0.out ?_
  case y5 =>
    intro V hV
    go_simp
  simp only [Act.put, List.setIfInBounds_toArray, List.set_cons_zero, List.set_cons_succ]
  refine wpAnyH_take (i := 6) (oi := { dst := some 10, op := Op.convert 3 65 (Operand.tmp 9), type := 65, pos := "code.go:27", after := #[{ on := 5, ground := Ground.data }], guard := none }) (v := .int .u64 (k : Int)) rfl (by kernel_rfl) (by kernel_rfl) (by kernel_rfl) (fun _ _ _ h => h.elim) (Or.inl ⟨by rfl, ?y6⟩) hS0.out ?_
  case y6 =>
    intro V hV
    have hw := qk
    go_simp
  simp only [Act.put, List.setIfInBounds_toArray, List.set_cons_zero, List.set_cons_succ]
  refine wpAnyH_ready (rs := [4, 7]) (by kernel_rfl) (by simp) (AllReadyH.cons (i := 4) (o := { dst := some 8, op := Op.load 28 (Operand.tmp 7), type := 28, pos := "code.go:27", after := #[{ on := 3, ground := Ground.data }], guard := none }) rfl ?_ (AllReadyH.cons (i := 7) (o := { dst := some 11, op := Op.call { callee := Callee.value (Operand.func 42), args := #[Operand.const (Value.slice none 0 0), Operand.tmp 10], argTypes := #[28, 65] }, type := 28, pos := "code.go:27", after := #[{ on := 6, ground := Ground.data }], guard := none }) rfl ?_ AllReadyH.nil))
  · intro K1 hK1
    rw [if_pos (by rfl)]
    have hc1 : V0.cell? ⟨g, 0, none⟩ = some (.slice va n c) := hG0.out.1.cell rfl
    go_wp2
    clear hc1
    refine hK1.out _ _ hS0.out ?_
    clear hK1
    intro _
    try simp only [Act.put, List.setIfInBounds_toArray, List.set_cons_zero, List.set_cons_succ]
    refine wpAnyH_ready (rs := [7]) (by kernel_rfl) (by simp) (AllReadyH.cons (i := 7) (o := { dst := some 11, op := Op.call { callee := Callee.value (Operand.func 42), args := #[Operand.const (Value.slice none 0 0), Operand.tmp 10], argTypes := #[28, 65] }, type := 28, pos := "code.go:27", after := #[{ on := 6, ground := Ground.data }], guard := none }) rfl ?_ AllReadyH.nil)
    · intro K1 hK1
      rw [if_pos (by rfl)]
      have HC2 := HC.out V0
      go_wp2_with fail
      refine HC2.mono ?_
      rintro e V2 ⟨tg, tc, rfl, hT2, hb2⟩
      dsimp only
      clear HC2
      have hS2 : Hid (Fr B A V2) := hS0.out.trans (Fr.of_below hb2 (Nat.le_trans HX.out.2.1 hS0.out.size))
      have hG2 : Hid (Blk V2 g 48 [.slice va n c, dv] ∧ Own 5 B V2 (.slice va n c) M) := ⟨hG0.out.1.below hb2 hG0.out.1.lt, hG0.out.2.below hb2 (Nat.le_refl _)⟩
      clear hb2
      refine hK1.out _ _ hS2.out ?_
      clear hK1
      intro _
      try simp only [Act.put, List.setIfInBounds_toArray, List.set_cons_zero, List.set_cons_succ]
      refine wpAnyH_ready (rs := [8]) (by kernel_rfl) (by simp) (AllReadyH.cons (i := 8) (o := { dst := some 12, op := Op.call { callee := Callee.builtin Builtin.append, args := #[Operand.tmp 8, Operand.tmp 11], argTypes := #[28, 28] }, type := 28, pos := "code.go:27", after := #[{ on := 4, ground := Ground.data }, { on := 7, ground := Ground.data }, { on := 7, ground := Ground.chain }], guard := none }) rfl ?_ AllReadyH.nil)
      · intro K1 hK1
        refine step_append_in V2 (by rfl) (.tmp 8) (.tmp 11) 28 rfl B 5 i0 Tryd.underlying28 HI5.out.1 HI5.out.2.1 HI5.out.2.2.1 HI5.out.2.2.2 (.slice va n c) M M.length rfl rfl hG2.out.2 (some ⟨tg, 0, none⟩) tn tc T rfl hT2.out (by have := HX.out.2.2; omega) (Nat.le_trans HX.out.2.1 hS2.out.size) ?_
        intro v5 V3 ho5 hg5
        obtain ⟨va2, n2, c2, rfl, -⟩ := sl_of5 ho5
        have hS3 : Hid (Fr B A V3) := hS2.out.trans (fr_own hG2.out.2 hg5 (Nat.le_trans HX.out.2.1 hS2.out.size))
        have hP3 : Hid (Blk V3 g 48 [.slice va n c, dv] ∧ Wr B (V3.setCell ⟨g, 0, none⟩ (.slice va2 n2 c2)) g dv (M ++ T) ∧ Fr B A (V3.setCell ⟨g, 0, none⟩ (.slice va2 n2 c2))) := ⟨(Wr.put hG2.out.1 hG2.out.2 HX.out.1 hg5 ho5).1, (Wr.put hG2.out.1 hG2.out.2 HX.out.1 hg5 ho5).2.1, hS2.out.trans (Wr.put hG2.out.1 hG2.out.2 HX.out.1 hg5 ho5).2.2⟩
        clear ho5 hg5
        refine hK1.out _ _ hS3.out ?_
        clear hK1
        intro _
        try simp only [Act.put, List.setIfInBounds_toArray, List.set_cons_zero, List.set_cons_succ]
        refine wpAnyH_take (i := 9) (oi := { dst := some 13, op := Op.nilCheck (Operand.tmp 4), type := 0, pos := "code.go:27", after := #[{ on := 0, ground := Ground.data }, { on := 0, ground := Ground.phase }, { on := 1, ground := Ground.phase }, { on := 2, ground := Ground.phase }, { on := 3, ground := Ground.phase }, { on := 4, ground := Ground.phase }, { on := 5, ground := Ground.phase }, { on := 6, ground := Ground.phase }, { on := 7, ground := Ground.phase }, { on := 8, ground := Ground.phase }], guard := none }) (v := .pointer (some ⟨g, 0, none⟩)) rfl (by kernel_rfl) (by kernel_rfl) (by kernel_rfl) (fun _ _ _ h => h.elim) (Or.inl ⟨by rfl, ?y7⟩) hS3.out ?_
        case y7 =>
          intro V hV
          go_simp
        simp only [Act.put, List.setIfInBounds_toArray, List.set_cons_zero, List.set_cons_succ]
        refine wpAnyH_take (i := 10) (oi := { dst := some 14, op := Op.fieldAddr 48 (Operand.tmp 13) 0, type := 0, pos := "code.go:27", after := #[{ on := 9, ground := Ground.data }, { on := 0, ground := Ground.phase }, { on := 1, ground := Ground.phase }, { on := 2, ground := Ground.phase }, { on := 3, ground := Ground.phase }, { on := 4, ground := Ground.phase }, { on := 5, ground := Ground.phase }, { on := 6, ground := Ground.phase }, { on := 7, ground := Ground.phase }, { on := 8, ground := Ground.phase }], guard := none }) (v := .pointer (some ⟨g, 0, none⟩)) rfl (by kernel_rfl) (by kernel_rfl) (by kernel_rfl) (fun _ _ _ h => h.elim) (Or.inl ⟨by rfl, ?y8⟩) hS3.out ?_
        case y8 =>
          intro V hV
          go_simp
        simp only [Act.put, List.setIfInBounds_toArray, List.set_cons_zero, List.set_cons_succ]
        refine wpAnyH_ready (rs := [11]) (by kernel_rfl) (by simp) (AllReadyH.cons (i := 11) (o := { dst := none, op := Op.store 28 (Operand.tmp 14) (Operand.tmp 12), type := 0, pos := "code.go:27", after := #[{ on := 10, ground := Ground.data }, { on := 8, ground := Ground.data }, { on := 8, ground := Ground.chain }, { on := 0, ground := Ground.phase }, { on := 1, ground := Ground.phase }, { on := 2, ground := Ground.phase }, { on := 3, ground := Ground.phase }, { on := 4, ground := Ground.phase }, { on := 5, ground := Ground.phase }, { on := 6, ground := Ground.phase }, { on := 7, ground := Ground.phase }, { on := 8, ground := Ground.phase }], guard := none }) rfl ?_ AllReadyH.nil)
        · intro K1 hK1
          refine step_st36 (by rfl) (.tmp 14) (.tmp 12) rfl g n2 c2 va2 (.slice va n c) dv rfl rfl hP3.out.1 ?_
          obtain ⟨V4, hv4⟩ : ∃ V, V3.setCell ⟨g, 0, none⟩ (.slice va2 n2 c2) = V := ⟨_, rfl⟩
          have hF4 : Hid (Wr B V4 g dv (M ++ T) ∧ Fr B A V4) := by have h := hP3.out.2; rw [hv4] at h; exact h
          rw [hv4]
          refine hK1.out _ _ hF4.out.2 ?_
          clear hK1
          intro _
          try simp only [Act.put, List.setIfInBounds_toArray, List.set_cons_zero, List.set_cons_succ]
          refine wpAnyH_done (by kernel_rfl) ?_ _
          exact hQ V4 tg tc va2 n2 c2 hF4.out.1 hF4.out.2
  · intro K1 hK1
    rw [if_pos (by rfl)]
    have HC1 := HC.out V0
    go_wp2_with fail
    refine HC1.mono ?_
    rintro e V1 ⟨tg, tc, rfl, hT1, hb1⟩
    dsimp only
    clear HC1
    have hS1 : Hid (Fr B A V1) := hS0.out.trans (Fr.of_below hb1 (Nat.le_trans HX.out.2.1 hS0.out.size))
    have hG1 : Hid (Blk V1 g 48 [.slice va n c, dv] ∧ Own 5 B V1 (.slice va n c) M) := ⟨hG0.out.1.below hb1 hG0.out.1.lt, hG0.out.2.below hb1 (Nat.le_refl _)⟩
    clear hb1
    refine hK1.out _ _ hS1.out ?_
    clear hK1
    intro _
    try simp only [Act.put, List.setIfInBounds_toArray, List.set_cons_zero, List.set_cons_succ]
    refine wpAnyH_ready (rs := [4]) (by kernel_rfl) (by simp) (AllReadyH.cons (i := 4) (o := { dst := some 8, op := Op.load 28 (Operand.tmp 7), type := 28, pos := "code.go:27", after := #[{ on := 3, ground := Ground.data }], guard := none }) rfl ?_ AllReadyH.nil)
    · intro K1 hK1
      rw [if_pos (by rfl)]
      have hc2 : V1.cell? ⟨g, 0, none⟩ = some (.slice va n c) := hG1.out.1.cell rfl
      go_wp2
      clear hc2
      refine hK1.out _ _ hS1.out ?_
      clear hK1
      intro _
      try simp only [Act.put, List.setIfInBounds_toArray, List.set_cons_zero, List.set_cons_succ]
      refine wpAnyH_ready (rs := [8]) (by kernel_rfl) (by simp) (AllReadyH.cons (i := 8) (o := { dst := some 12, op := Op.call { callee := Callee.builtin Builtin.append, args := #[Operand.tmp 8, Operand.tmp 11], argTypes := #[28, 28] }, type := 28, pos := "code.go:27", after := #[{ on := 4, ground := Ground.data }, { on := 7, ground := Ground.data }, { on := 7, ground := Ground.chain }], guard := none }) rfl ?_ AllReadyH.nil)
      · intro K1 hK1
        refine step_append_in V1 (by rfl) (.tmp 8) (.tmp 11) 28 rfl B 5 i0 Tryd.underlying28 HI5.out.1 HI5.out.2.1 HI5.out.2.2.1 HI5.out.2.2.2 (.slice va n c) M M.length rfl rfl hG1.out.2 (some ⟨tg, 0, none⟩) tn tc T rfl hT1.out (by have := HX.out.2.2; omega) (Nat.le_trans HX.out.2.1 hS1.out.size) ?_
        intro v5 V3 ho5 hg5
        obtain ⟨va2, n2, c2, rfl, -⟩ := sl_of5 ho5
        have hS3 : Hid (Fr B A V3) := hS1.out.trans (fr_own hG1.out.2 hg5 (Nat.le_trans HX.out.2.1 hS1.out.size))
        have hP3 : Hid (Blk V3 g 48 [.slice va n c, dv] ∧ Wr B (V3.setCell ⟨g, 0, none⟩ (.slice va2 n2 c2)) g dv (M ++ T) ∧ Fr B A (V3.setCell ⟨g, 0, none⟩ (.slice va2 n2 c2))) := ⟨(Wr.put hG1.out.1 hG1.out.2 HX.out.1 hg5 ho5).1, (Wr.put hG1.out.1 hG1.out.2 HX.out.1 hg5 ho5).2.1, hS1.out.trans (Wr.put hG1.out.1 hG1.out.2 HX.out.1 hg5 ho5).2.2⟩
        clear ho5 hg5
        refine hK1.out _ _ hS3.out ?_
        clear hK1
        intro _
        try simp only [Act.put, List.setIfInBounds_toArray, List.set_cons_zero, List.set_cons_succ]
        refine wpAnyH_take (i := 9) (oi := { dst := some 13, op := Op.nilCheck (Operand.tmp 4), type := 0, pos := "code.go:27", after := #[{ on := 0, ground := Ground.data }, { on := 0, ground := Ground.phase }, { on := 1, ground := Ground.phase }, { on := 2, ground := Ground.phase }, { on := 3, ground := Ground.phase }, { on := 4, ground := Ground.phase }, { on := 5, ground := Ground.phase }, { on := 6, ground := Ground.phase }, { on := 7, ground := Ground.phase }, { on := 8, ground := Ground.phase }], guard := none }) (v := .pointer (some ⟨g, 0, none⟩)) rfl (by kernel_rfl) (by kernel_rfl) (by kernel_rfl) (fun _ _ _ h => h.elim) (Or.inl ⟨by rfl, ?y9⟩) hS3.out ?_
        case y9 =>
          intro V hV
          go_simp
        simp only [Act.put, List.setIfInBounds_toArray, List.set_cons_zero, List.set_cons_succ]
        refine wpAnyH_take (i := 10) (oi := { dst := some 14, op := Op.fieldAddr 48 (Operand.tmp 13) 0, type := 0, pos := "code.go:27", after := #[{ on := 9, ground := Ground.data }, { on := 0, ground := Ground.phase }, { on := 1, ground := Ground.phase }, { on := 2, ground := Ground.phase }, { on := 3, ground := Ground.phase }, { on := 4, ground := Ground.phase }, { on := 5, ground := Ground.phase }, { on := 6, ground := Ground.phase }, { on := 7, ground := Ground.phase }, { on := 8, ground := Ground.phase }], guard := none }) (v := .pointer (some ⟨g, 0, none⟩)) rfl (by kernel_rfl) (by kernel_rfl) (by kernel_rfl) (fun _ _ _ h => h.elim) (Or.inl ⟨by rfl, ?y10⟩) hS3.out ?_
        case y10 =>
          intro V hV
          go_simp
        simp only [Act.put, List.setIfInBounds_toArray, List.set_cons_zero, List.set_cons_succ]
        refine wpAnyH_ready (rs := [11]) (by kernel_rfl) (by simp) (AllReadyH.cons (i := 11) (o := { dst := none, op := Op.store 28 (Operand.tmp 14) (Operand.tmp 12), type := 0, pos := "code.go:27", after := #[{ on := 10, ground := Ground.data }, { on := 8, ground := Ground.data }, { on := 8, ground := Ground.chain }, { on := 0, ground := Ground.phase }, { on := 1, ground := Ground.phase }, { on := 2, ground := Ground.phase }, { on := 3, ground := Ground.phase }, { on := 4, ground := Ground.phase }, { on := 5, ground := Ground.phase }, { on := 6, ground := Ground.phase }, { on := 7, ground := Ground.phase }, { on := 8, ground := Ground.phase }], guard := none }) rfl ?_ AllReadyH.nil)
        · intro K1 hK1
          refine step_st36 (by rfl) (.tmp 14) (.tmp 12) rfl g n2 c2 va2 (.slice va n c) dv rfl rfl hP3.out.1 ?_
          obtain ⟨V4, hv4⟩ : ∃ V, V3.setCell ⟨g, 0, none⟩ (.slice va2 n2 c2) = V := ⟨_, rfl⟩
          have hF4 : Hid (Wr B V4 g dv (M ++ T) ∧ Fr B A V4) := by have h := hP3.out.2; rw [hv4] at h; exact h
          rw [hv4]
          refine hK1.out _ _ hF4.out.2 ?_
          clear hK1
          intro _
          try simp only [Act.put, List.setIfInBounds_toArray, List.set_cons_zero, List.set_cons_succ]
          refine wpAnyH_done (by kernel_rfl) ?_ _
          exact hQ V4 tg tc va2 n2 c2 hF4.out.1 hF4.out.2
theorem enc_ten (n : Nat) (h : n < 2 ^ 64) : (enc n).length ≤ 10 := enc_le n h
set_option maxHeartbeats 2000000 in
theorem text_is {B : Nat} {w : World} {g : Nat} {dv : Value} {M : List UInt8} (h : Wr B w g dv M) (s : BA) (hM : M.length ≤ 1000000) (hs : s.size ≤ 1000000) : Calls Tryd.prog 21 #[.pointer (some ⟨g, 0, none⟩), .string s] w (WrP B g dv (M ++ encT s) w) := by
  obtain ⟨va, n, cp, hb, ho⟩ := h.own
  obtain ⟨i0, hi⟩ := i5
  have HI5 : Hid (Tryd.prog.info? 5 = some i0 ∧ i0.zero = some (.int .u8 0) ∧ i0.size = 1 ∧ i0.bytes = 1) := hi
  obtain ⟨tn, htn⟩ : ∃ n, (encT s).length = n := ⟨_, rfl⟩
  have hle := enc_ten s.size (by omega)
  have hsz : s.data.toList.length = s.size := rfl
  have HX : Hid (B ≤ g ∧ B ≤ w.heap.size ∧ M.length + tn ≤ 140737488355328) := ⟨h.lo, h.lt.2, by rw [← htn]; unfold encT; rw [List.length_append]; omega⟩
  have HG : Hid (Blk w g 48 [.slice va n cp, dv] ∧ Own 5 B w (.slice va n cp) M) := ⟨hb, ho⟩
  have HC : Hid (∀ V, Calls Tryd.prog 41 #[.slice none 0 0, .string s] V fun e V2 => ∃ tg tc, e = .returned (.slice (some ⟨tg, 0, none⟩) tn tc) ∧ Hid (In V2 (some ⟨tg, 0, none⟩) tn tc (encT s)) ∧ Below V.heap.size V V2) := by
    intro V
    refine (putText none 0 0 [] s V (In.nil V) (by omega)).mono ?_
    rintro e V2 ⟨tg, tc, rfl, _, _, _, ho2, hb2⟩
    have e1 : ([] ++ enc s.size ++ s.data.toList).length = tn := by rw [List.nil_append]; exact htn
    rw [e1] at ho2 ⊢
    refine ⟨tg, tc, rfl, ?_, hb2⟩
    have ho3 : Own 5 V.heap.size V2 (.slice (some ⟨tg, 0, none⟩) (encT s).length tc) (encT s) := by rw [htn]; exact ho2
    have := ho3.toIn (by rw [htn]; have := HX.out.2.2; omega)
    rw [htn] at this
    exact this
  clear h hb ho hM hs hi htn hle hsz
  go_enter Tryd.func21, Tryd.ntmps21
  refine tx62 HI5 HX HG HC ?_
  intro V1 tg tc va2 n2 c2 hw hf
  go_end0
  exact ⟨⟨_, rfl⟩, hw, hf⟩
set_option maxHeartbeats 2000000 in
theorem number_w {B : Nat} {w : World} {g : Nat} {dv : Value} {M : List UInt8} (h : Wr B w g dv M) (k : Nat) (hM : M.length ≤ 1000000) (hk : k ≤ 4611686018427387904) : Calls Tryd.prog 22 #[.pointer (some ⟨g, 0, none⟩), iv (k : Int)] w (WrP B g dv (M ++ enc k) w) := by
  obtain ⟨va, n, cp, hb, ho⟩ := h.own
  obtain ⟨i0, hi⟩ := i5
  have HI5 : Hid (Tryd.prog.info? 5 = some i0 ∧ i0.zero = some (.int .u8 0) ∧ i0.size = 1 ∧ i0.bytes = 1) := hi
  obtain ⟨tn, htn⟩ : ∃ n, (enc k).length = n := ⟨_, rfl⟩
  have hle := enc_ten k (by omega)
  have qk : IntKind.u64.wrap (k : Int) = (k : Int) := by rw [IntKind.wrap_u64]; omega
  have HX : Hid (B ≤ g ∧ B ≤ w.heap.size ∧ M.length + tn ≤ 140737488355328) := ⟨h.lo, h.lt.2, by omega⟩
  have HG : Hid (Blk w g 48 [.slice va n cp, dv] ∧ Own 5 B w (.slice va n cp) M) := ⟨hb, ho⟩
  have HC : Hid (∀ V, Calls Tryd.prog 42 #[.slice none 0 0, .int .u64 (k : Int)] V fun e V2 => ∃ tg tc, e = .returned (.slice (some ⟨tg, 0, none⟩) tn tc) ∧ Hid (In V2 (some ⟨tg, 0, none⟩) tn tc (enc k)) ∧ Below V.heap.size V V2) := by
    intro V
    refine (put none 0 0 [] (k : Int) V (In.nil V) (by omega) (by omega)).mono ?_
    rintro e V2 ⟨rfl, ho2, hb2⟩
    rw [Int.toNat_natCast, Nat.zero_add, htn, List.nil_append] at ho2
    rw [Int.toNat_natCast, Nat.zero_add, htn]
    refine ⟨_, tn, rfl, ?_, hb2⟩
    have ho3 : Own 5 V.heap.size V2 (.slice (some ⟨V.heap.size, 0, none⟩) (enc k).length tn) (enc k) := by rw [htn]; exact ho2
    have := ho3.toIn (by omega)
    rw [htn] at this
    exact this
  clear h hb ho hM hk hi htn hle
  go_enter Tryd.func22, Tryd.ntmps22
  refine nu63 qk HI5 HX HG HC ?_
  intro V1 tg tc va2 n2 c2 hw hf
  go_end0
  exact ⟨⟨_, rfl⟩, hw, hf⟩
end Go.Proofs.YtgdecjacbkicmaaDoor.Oct

/- Layer 10 (patch): the writer: vertices and operations. -/
namespace Go.Proofs.YtgdecjacbkicmaaDoor.Oct
open Go.RowKit
set_option maxRecDepth 100000
set_option linter.unusedSimpArgs false
set_option linter.unusedVariables false

def encV (D : List Hs) (v : Vx) : List UInt8 := if eqVx v vTop = true then [0] else if eqVx v vBot = true then [1] else 2 :: (enc (placeOf v.h D).toNat ++ enc v.n.toNat)
def encO (D : List Hs) (o : OpV) : List UInt8 := UInt8.ofNat o.kind.toNat :: (encT o.path ++ (encV D o.up ++ (if o.kind = 1 then encV D o.dn ++ (enc o.ln ++ o.ts.flatMap encT) else [])))
theorem encT_len (s : BA) (h : s.size ≤ 1000000) : (encT s).length ≤ s.size + 10 := by
  unfold encT
  rw [List.length_append]
  have := enc_ten s.size (by omega)
  have e : s.data.toList.length = s.size := rfl
  omega
theorem line_of {D : List Hs} {v : Vx} (h : lineOf D v = true) : 0 ≤ v.n ∧ v.n < 64 ∧ v.h ∈ D := by
  unfold lineOf at h
  simpa using h
theorem place_nat {D : List Hs} {h : Hs} (hm : h ∈ D) : ∃ k : Nat, placeOf h D = (k : Int) ∧ k < D.length ∧ D[k]? = some h := by
  unfold placeOf
  cases hf : D.findIdx? (· == h) with
  | none =>
    rw [List.findIdx?_eq_none_iff] at hf
    have := hf h hm
    simp at this
  | some k =>
    obtain ⟨hk, h1, _⟩ := List.findIdx?_eq_some_iff_getElem.1 hf
    exact ⟨k, rfl, hk, by rw [List.getElem?_eq_getElem hk]; simpa using h1⟩
theorem encV_len (D : List Hs) (v : Vx) (hD : D.length ≤ 100000) (h : eqVx v vTop = true ∨ eqVx v vBot = true ∨ lineOf D v = true) : (encV D v).length ≤ 21 := by
  unfold encV
  split
  · simp
  · split
    · simp
    · rename_i h1 h2
      have hl := h.resolve_left h1 |>.resolve_left h2
      obtain ⟨a1, a2, a3⟩ := line_of hl
      obtain ⟨k, hk, hk2, _⟩ := place_nat a3
      rw [hk, List.length_cons, List.length_append]
      have := enc_ten k (by omega)
      have := enc_ten v.n.toNat (by omega)
      simp only [Int.toNat_natCast]
      omega
theorem yl_ld {o : Oper} {a : Act} (V : World) (ty : TypeId) (x : Operand) (hop : o.op = .load ty x) (b p : Nat) (hx : a.eval x = .pointer (some ⟨b, p, none⟩)) (cs : List Value) (d : TypeDesc) (hr : V.rangeAt b p cs) (hu : Tryd.prog.underlying ty = some d) (hd : d.isRow = true) (hi : (Tryd.prog.info? ty).map (·.size) = some cs.length) :
    (execOp a.eval o).run Tryd.prog V = .ok (.value (.agg cs.toArray)) V := by
  unfold execOp
  simp only [hop, hx, Instr.loadAt, Instr.sureAddr, Sem.run_bind, Sem.run_pure, Result.andThen_ok, run_loadVar_mid V b p ty cs d hr hu hd hi]
theorem Wr.c1 {B : Nat} {w : World} {g : Nat} {dv : Value} {M : List UInt8} (h : Wr B w g dv M) : w.cell? ⟨g, 1, none⟩ = some dv := by
  obtain ⟨_, _, _, h1, _⟩ := h.own
  exact h1.cell rfl
set_option maxRecDepth 100000 in
set_option maxHeartbeats 4000000 in
theorem vx3 {Q : Exit → Act → World → Prop} {x1 x2 x4 x5 x6 x7 x8 x9 x10 x11 x12 x13 x14 x15 x16 x17 x18 x19 x20 x21 x22 x23 x24 x25 x26 x27 x28 x29 : Value} {ds : List Deferred} {A : World} {B g d dn dc k : Nat} {da : Option Addr} {M : List UInt8} {v : Vx}
    (HX : Hid (B ≤ g ∧ B ≤ A.heap.size)) (HV : Hid v.ok) (HM : Hid (M.length ≤ 1000000 ∧ k ≤ 4611686018427387904)) (HWr : Hid (Wr B A g (.slice da dn dc) M)) (HBk : Hid (Blk A d 42 v.cells)) (HC : Hid (∀ V, Fr B A V → Calls Tryd.prog 70 #[.slice da dn dc, .agg (U v.h).toArray] V fun e V2 => e = .returned (iv (k : Int)) ∧ Below V.heap.size V V2))
    (hQ : ∀ V1 rv, Wr B V1 g (.slice da dn dc) (M ++ enc k) → Fr B A V1 → Q .normal { tmps := #[.pointer (some ⟨g, 0, none⟩), x1, x2, .pointer (some ⟨d, 0, none⟩), x4, x5, x6, .pointer (some ⟨g, 0, none⟩), .pointer (some ⟨g, 0, none⟩), .pointer (some ⟨g, 0, none⟩), .pointer (some ⟨g, 1, none⟩), .slice da dn dc, .pointer (some ⟨d, 0, none⟩), .agg (U v.h).toArray, iv (k : Int), rv, x16, x17, x18, x19, x20, x21, x22, x23, x24, x25, x26, x27, x28, x29], defers := ds } V1) :
    (Code.region 3 #[{ dst := some 7, op := Op.move (Operand.tmp 0), type := 55, pos := "code.go:68", after := #[], guard := none }, { dst := some 8, op := Op.move (Operand.tmp 0), type := 55, pos := "code.go:68", after := #[], guard := none }, { dst := some 9, op := Op.nilCheck (Operand.tmp 8), type := 0, pos := "code.go:68", after := #[{ on := 1, ground := Ground.data }], guard := none }, { dst := some 10, op := Op.fieldAddr 48 (Operand.tmp 9) 1, type := 0, pos := "code.go:68", after := #[{ on := 2, ground := Ground.data }], guard := none }, { dst := some 11, op := Op.load 22 (Operand.tmp 10), type := 22, pos := "code.go:68", after := #[{ on := 3, ground := Ground.data }], guard := none }, { dst := some 12, op := Op.fieldAddr 42 (Operand.tmp 3) 0, type := 0, pos := "code.go:68", after := #[], guard := none }, { dst := some 13, op := Op.load 36 (Operand.tmp 12), type := 36, pos := "code.go:68", after := #[{ on := 5, ground := Ground.data }], guard := none }, { dst := some 14, op := Op.call { callee := Callee.value (Operand.func 70), args := #[Operand.tmp 11, Operand.tmp 13], argTypes := #[22, 36] }, type := 3, pos := "code.go:68", after := #[{ on := 4, ground := Ground.data }, { on := 6, ground := Ground.data }], guard := none }, { dst := some 15, op := Op.call { callee := Callee.value (Operand.func 22), args := #[Operand.tmp 7, Operand.tmp 14], argTypes := #[55, 3] }, type := 0, pos := "code.go:68", after := #[{ on := 0, ground := Ground.data }, { on := 7, ground := Ground.data }, { on := 7, ground := Ground.chain }], guard := none }] true).wp Tryd.prog Q { tmps := #[.pointer (some ⟨g, 0, none⟩), x1, x2, .pointer (some ⟨d, 0, none⟩), x4, x5, x6, x7, x8, x9, x10, x11, x12, x13, x14, x15, x16, x17, x18, x19, x20, x21, x22, x23, x24, x25, x26, x27, x28, x29], defers := ds } A := by
  refine Code.wp_mono (Q := fun x a' w' => match x with | .normal => Q .normal a' w' | _ => False) (by intro x a' w' h; cases x <;> first | exact h | exact h.elim) ?_
  refine wp_region_held (S := fun V => Fr B A V ∧ V.cell? ⟨g, 1, none⟩ = some (.slice da dn dc)) (by kernel_rfl) ?_
  have hS0 : Hid (Fr B A A.drew ∧ A.drew.cell? ⟨g, 1, none⟩ = some (.slice da dn dc)) := ⟨Fr.of_below (below_drew0 A) HX.out.2, HWr.out.c1⟩
  change wpAnyH Tryd.prog .any _ _ (fun V => Fr B A V ∧ V.cell? ⟨g, 1, none⟩ = some (.slice da dn dc)) 9 (Array.replicate 9 false) _ A.drew
  obtain ⟨V0, hV0⟩ : ∃ V0, A.drew = V0 := ⟨_, rfl⟩
  rw [hV0]
  rw [hV0] at hS0
  have hW0 : Hid (Wr B V0 g (.slice da dn dc) M) := by rw [← hV0]; exact HWr.out.below (below_drew0 A)
  clear hV0
  refine wpAnyH_take (i := 0) (oi := { dst := some 7, op := Op.move (Operand.tmp 0), type := 55, pos := "code.go:68", after := #[], guard := none }) (v := .pointer (some ⟨g, 0, none⟩)) rfl (by kernel_rfl) (by kernel_rfl) (by kernel_rfl) (fun _ _ _ h => h.elim) (Or.inl ⟨by rfl, ?y1⟩) hS0.out ?_
  case y1 =>
    intro V hV
    go_simp
  simp only [Act.put, List.setIfInBounds_toArray, List.set_cons_zero, List.set_cons_succ]
  refine wpAnyH_take (i := 1) (oi := { dst := some 8, op := Op.move (Operand.tmp 0), type := 55, pos := "code.go:68", after := #[], guard := none }) (v := .pointer (some ⟨g, 0, none⟩)) rfl (by kernel_rfl) (by kernel_rfl) (by kernel_rfl) (fun _ _ _ h => h.elim) (Or.inl ⟨by rfl, ?y2⟩) hS0.out ?_
  case y2 =>
    intro V hV
    go_simp
  simp only [Act.put, List.setIfInBounds_toArray, List.set_cons_zero, List.set_cons_succ]
  refine wpAnyH_take (i := 2) (oi := { dst := some 9, op := Op.nilCheck (Operand.tmp 8), type := 0, pos := "code.go:68", after := #[{ on := 1, ground := Ground.data }], guard := none }) (v := .pointer (some ⟨g, 0, none⟩)) rfl (by kernel_rfl) (by kernel_rfl) (by kernel_rfl) (fun _ _ _ h => h.elim) (Or.inl ⟨by rfl, ?y3⟩) hS0.out ?_
  case y3 =>
    intro V hV
    go_simp
  simp only [Act.put, List.setIfInBounds_toArray, List.set_cons_zero, List.set_cons_succ]
  refine wpAnyH_take (i := 3) (oi := { dst := some 10, op := Op.fieldAddr 48 (Operand.tmp 9) 1, type := 0, pos := "code.go:68", after := #[{ on := 2, ground := Ground.data }], guard := none }) (v := .pointer (some ⟨g, 1, none⟩)) rfl (by kernel_rfl) (by kernel_rfl) (by kernel_rfl) (fun _ _ _ h => h.elim) (Or.inl ⟨by rfl, ?y4⟩) hS0.out ?_
  case y4 =>
    intro V hV
    go_simp
  simp only [Act.put, List.setIfInBounds_toArray, List.set_cons_zero, List.set_cons_succ]
  refine wpAnyH_take (i := 4) (oi := { dst := some 11, op := Op.load 22 (Operand.tmp 10), type := 22, pos := "code.go:68", after := #[{ on := 3, ground := Ground.data }], guard := none }) (v := .slice da dn dc) rfl (by kernel_rfl) (by kernel_rfl) (by kernel_rfl) (fun _ _ _ h => h.elim) (Or.inl ⟨by rfl, ?y5⟩) hS0.out ?_
  case y5 =>
    intro V hV
    have hc : V.cell? ⟨g, 1, none⟩ = some (.slice da dn dc) := (show Fr B A V ∧ V.cell? ⟨g, 1, none⟩ = some (.slice da dn dc) from hV).2
    go_simp
  simp only [Act.put, List.setIfInBounds_toArray, List.set_cons_zero, List.set_cons_succ]
  refine wpAnyH_take (i := 5) (oi := { dst := some 12, op := Op.fieldAddr 42 (Operand.tmp 3) 0, type := 0, pos := "code.go:68", after := #[], guard := none }) (v := .pointer (some ⟨d, 0, none⟩)) rfl (by kernel_rfl) (by kernel_rfl) (by kernel_rfl) (fun _ _ _ h => h.elim) (Or.inl ⟨by rfl, ?y6⟩) hS0.out ?_
  case y6 =>
    intro V hV
    go_simp
  simp only [Act.put, List.setIfInBounds_toArray, List.set_cons_zero, List.set_cons_succ]
  refine wpAnyH_take (i := 6) (oi := { dst := some 13, op := Op.load 36 (Operand.tmp 12), type := 36, pos := "code.go:68", after := #[{ on := 5, ground := Ground.data }], guard := none }) (v := .agg (U v.h).toArray) rfl (by kernel_rfl) (by kernel_rfl) (by kernel_rfl) (fun _ _ _ h => h.elim) (Or.inl ⟨by rfl, ?y7⟩) hS0.out ?_
  case y7 =>
    intro V hV
    have hV1 : Fr B A V := (show Fr B A V ∧ V.cell? ⟨g, 1, none⟩ = some (.slice da dn dc) from hV).1
    have hr : V.rangeAt d 0 (U v.h) := by have h := (HBk.out.fr hV1 (by decide) (by decide)).range 0 32; rw [List.drop_zero, Vx.hash HV.out] at h; exact h
    exact yl_ld V 36 (.tmp 12) rfl d 0 rfl (U v.h) _ hr Tryd.underlying36 rfl (info47 _ HV.out)
  simp only [Act.put, List.setIfInBounds_toArray, List.set_cons_zero, List.set_cons_succ]
  refine wpAnyH_ready (rs := [7]) (by kernel_rfl) (by simp) (AllReadyH.cons (i := 7) (o := { dst := some 14, op := Op.call { callee := Callee.value (Operand.func 70), args := #[Operand.tmp 11, Operand.tmp 13], argTypes := #[22, 36] }, type := 3, pos := "code.go:68", after := #[{ on := 4, ground := Ground.data }, { on := 6, ground := Ground.data }], guard := none }) rfl ?_ AllReadyH.nil)
  · intro K1 hK1
    rw [if_pos (by rfl)]
    have HC1 := HC.out V0 hS0.out.1
    go_wp2_with fail
    refine HC1.mono ?_
    rintro e V1 ⟨rfl, hb1⟩
    dsimp only
    clear HC1
    have hW1 : Hid (Wr B V1 g (.slice da dn dc) M) := hW0.out.below hb1
    have hS1 : Hid (Fr B A V1 ∧ V1.cell? ⟨g, 1, none⟩ = some (.slice da dn dc)) := ⟨hS0.out.1.trans (Fr.of_below hb1 (Nat.le_trans HX.out.2 hS0.out.1.size)), hW1.out.c1⟩
    clear hb1
    refine hK1.out _ _ hS1.out ?_
    clear hK1
    intro _
    try simp only [Act.put, List.setIfInBounds_toArray, List.set_cons_zero, List.set_cons_succ]
    refine wpAnyH_ready (rs := [8]) (by kernel_rfl) (by simp) (AllReadyH.cons (i := 8) (o := { dst := some 15, op := Op.call { callee := Callee.value (Operand.func 22), args := #[Operand.tmp 7, Operand.tmp 14], argTypes := #[55, 3] }, type := 0, pos := "code.go:68", after := #[{ on := 0, ground := Ground.data }, { on := 7, ground := Ground.data }, { on := 7, ground := Ground.chain }], guard := none }) rfl ?_ AllReadyH.nil)
    · intro K1 hK1
      rw [if_pos (by rfl)]
      have HC2 := number_w hW1.out k HM.out.1 HM.out.2
      go_wp2_with fail
      refine HC2.mono ?_
      rintro e V2 ⟨⟨rv, rfl⟩, hw2, hf2⟩
      dsimp only
      clear HC2
      have hS2 : Hid ((Fr B A V2 ∧ V2.cell? ⟨g, 1, none⟩ = some (.slice da dn dc)) ∧ Wr B V2 g (.slice da dn dc) (M ++ enc k)) := ⟨⟨hS1.out.1.trans hf2, hw2.c1⟩, hw2⟩
      clear hw2 hf2
      refine hK1.out _ _ hS2.out.1 ?_
      clear hK1
      intro _
      try simp only [Act.put, List.setIfInBounds_toArray, List.set_cons_zero, List.set_cons_succ]
      refine wpAnyH_done (by kernel_rfl) ?_ _
      exact hQ V2 rv hS2.out.2 hS2.out.1.1
set_option maxHeartbeats 2000000 in
theorem vertex_is {B : Nat} {w : World} {g : Nat} {da : Option Addr} {dn dc : Nat} {M : List UInt8} (h : Wr B w g (.slice da dn dc) M) (D : List Hs) (hD : ∀ V, Below B w V → HsR V da dn D) (hdn : dn ≤ 100000) (v : Vx) (hv : v.ok) (hL : eqVx v vTop = true ∨ eqVx v vBot = true ∨ lineOf D v = true) (hM : M.length ≤ 900000) (R : List UInt8) (hR : encV D v = R) :
    Calls Tryd.prog 43 #[.pointer (some ⟨g, 0, none⟩), .agg v.cells.toArray] w (WrP B g (.slice da dn dc) (M ++ R) w) := by
  have HP : Hid ((∀ V, Below B w V → HsR V da dn D) ∧ dn ≤ 100000 ∧ v.ok ∧ (eqVx v vTop = true ∨ eqVx v vBot = true ∨ lineOf D v = true) ∧ M.length ≤ 900000 ∧ B ≤ w.heap.size) := ⟨hD, hdn, hv, hL, hM, h.lt.2⟩
  obtain ⟨d, hd⟩ : ∃ d, w.heap.size = d := ⟨_, rfl⟩
  obtain ⟨W, hW⟩ : ∃ W, w.alloc (.cells v.cells.toArray 42) = W := ⟨_, rfl⟩
  have hbw : Below w.heap.size w W := by rw [← hW]; exact below_al _ _
  have hk : Blk W d 42 v.cells := by rw [← hW, ← hd]; exact Blk.new w _ _
  have c32 : W.cell? ⟨d, 32, none⟩ = some (iv v.n) := hk.cell (Vx.line hv)
  have H0 : Hid (Fr B w W ∧ Blk W d 42 v.cells ∧ Wr B W g (.slice da dn dc) M) := ⟨Fr.of_below hbw h.lt.2, hk, h.below hbw⟩
  clear h hD hdn hv hL hM hbw hk c32
  go_enter Tryd.func43, Tryd.ntmps43
  go_wp2_with (with_reducible change wpList _ _ _ ({ dst := some 4, op := _, type := _, pos := _, after := _, guard := _ } :: _) _ _; refine Hid.out ?_)
  show wpList _ _ _ _ _ _
  refine wpList_load_mid rfl 42 (.tmp 3) rfl d 0 rfl v.cells _ H0.out.2.1.range0 Tryd.underlying42 rfl (info49 HP.out.2.2.1) ?_
  go_wp2_with fail
  refine (top_is W _ rfl).mono ?_
  rintro e W1 ⟨rfl, hb1⟩
  have H1 : Hid (Fr B w W1 ∧ Blk W1 d 42 v.cells ∧ Wr B W1 g (.slice da dn dc) M) := ⟨H0.out.1.trans (Fr.of_below hb1 H0.out.2.2.lt.2), H0.out.2.1.below hb1 H0.out.2.1.lt, H0.out.2.2.below hb1⟩
  clear hb1 hW hd H0
  obtain ⟨T1, hT1⟩ : ∃ b, eqVx v vTop = b := ⟨_, rfl⟩
  obtain ⟨T2, hT2⟩ : ∃ b, eqVx v vBot = b := ⟨_, rfl⟩
  have HT : Hid (eqVx v vTop = T1 ∧ eqVx v vBot = T2) := ⟨hT1, hT2⟩
  unfold encV at hR
  rw [hT1, hT2] at hR
  clear hT1 hT2
  go_wp2_with (with_reducible change wpList _ _ _ ({ dst := some 22, op := _, type := _, pos := _, after := _, guard := _ } :: _) _ _; refine Hid.out ?_)
  show wpList _ _ _ _ _ _
  refine wpList_eqV rfl (.tmp 4) (.tmp 21) rfl v vTop HP.out.2.2.1 vTop_ok T1 HT.out.1 rfl rfl ?_
  cases T1 with
  | true =>
    rw [if_pos rfl] at hR
    subst hR
    go_wp2_with fail
    refine (mark_is H1.out.2.2 0 (by have := HP.out.2.2.2.2.1; omega)).mono ?_
    rintro e W2 ⟨⟨rv, rfl⟩, hw2, hf2⟩
    have HF : Hid (Wr B W2 g (.slice da dn dc) (M ++ [0]) ∧ Fr B w W2) := ⟨hw2, H1.out.1.trans hf2⟩
    clear hw2 hf2
    go_wp2
    go_end0
    exact ⟨⟨_, rfl⟩, HF.out.1, HF.out.2⟩
  | false =>
  rw [if_neg (by decide)] at hR
  go_wp2_with fail
  refine (bot_is W1 _ rfl).mono ?_
  rintro e W2 ⟨rfl, hb2⟩
  have H2 : Hid (Fr B w W2 ∧ Blk W2 d 42 v.cells ∧ Wr B W2 g (.slice da dn dc) M) := ⟨H1.out.1.trans (Fr.of_below hb2 H1.out.2.2.lt.2), H1.out.2.1.below hb2 H1.out.2.1.lt, H1.out.2.2.below hb2⟩
  clear hb2 H1
  go_wp2_with (with_reducible change wpList _ _ _ ({ dst := some 27, op := _, type := _, pos := _, after := _, guard := _ } :: _) _ _; refine Hid.out ?_)
  show wpList _ _ _ _ _ _
  refine wpList_eqV rfl (.tmp 4) (.tmp 26) rfl v vBot HP.out.2.2.1 vBot_ok T2 HT.out.2 rfl rfl ?_
  cases T2 with
  | true =>
    rw [if_pos rfl] at hR
    subst hR
    go_wp2_with fail
    refine (mark_is H2.out.2.2 1 (by have := HP.out.2.2.2.2.1; omega)).mono ?_
    rintro e W3 ⟨⟨rv, rfl⟩, hw2, hf2⟩
    have HF : Hid (Wr B W3 g (.slice da dn dc) (M ++ [1]) ∧ Fr B w W3) := ⟨hw2, H2.out.1.trans hf2⟩
    clear hw2 hf2
    go_wp2
    go_end0
    exact ⟨⟨_, rfl⟩, HF.out.1, HF.out.2⟩
  | false =>
  rw [if_neg (by decide)] at hR
  have hl : lineOf D v = true := by
    rcases HP.out.2.2.2.1 with h | h | h
    · rw [HT.out.1] at h; cases h
    · rw [HT.out.2] at h; cases h
    · exact h
  obtain ⟨a1, a2, a3⟩ := line_of hl
  obtain ⟨k, hk, hk2, _⟩ := place_nat a3
  obtain ⟨j, hj⟩ : ∃ j : Nat, v.n = (j : Int) := ⟨v.n.toNat, by omega⟩
  rw [hk, hj, Int.toNat_natCast, Int.toNat_natCast] at hR
  have hDl := (HP.out.1 w (Below.refl _ _)).1
  have HK : Hid (placeOf v.h D = (k : Int) ∧ k ≤ 100000 ∧ v.n = (j : Int) ∧ j < 64 ∧ 2 :: (enc k ++ enc j) = R) := ⟨hk, by have := HP.out.2.1; omega, hj, by omega, hR⟩
  clear hl a1 a2 a3 hk hk2 hj hR hDl
  go_wp2_with fail
  refine (mark_is H2.out.2.2 2 (by have := HP.out.2.2.2.2.1; omega)).mono ?_
  rintro e W3 ⟨⟨rv3, rfl⟩, hw3, hf3⟩
  have H3 : Hid (Fr B w W3) := H2.out.1.trans hf3
  have HBk : Hid (Blk W3 d 42 v.cells) := H2.out.2.1.fr hf3 (by decide) (by decide)
  have HWr : Hid (Wr B W3 g (.slice da dn dc) (M ++ [2])) := hw3
  have HX : Hid (B ≤ g ∧ B ≤ W3.heap.size) := ⟨hw3.lo, hw3.lt.2⟩
  have HV : Hid v.ok := HP.out.2.2.1
  have HM : Hid ((M ++ [2]).length ≤ 1000000 ∧ k ≤ 4611686018427387904) := ⟨by rw [List.length_append]; have := HP.out.2.2.2.2.1; simp; omega, by have := HK.out.2.1; omega⟩
  have HC : Hid (∀ V, Fr B W3 V → Calls Tryd.prog 70 #[.slice da dn dc, .agg (U v.h).toArray] V fun e V2 => e = .returned (iv (k : Int)) ∧ Below V.heap.size V V2) := fun V hV => index_h V da dn dc D v.h (HP.out.1 V (H3.out.trans hV).below) HP.out.2.2.1 HP.out.2.1 (k : Int) HK.out.1
  clear hw3 hf3 H2
  go_wp2_with fail
  refine vx3 HX HV HM HWr HBk HC ?_
  intro W4 rv4 hw4 hf4
  have H4 : Hid (Fr B w W4 ∧ Blk W4 d 42 v.cells ∧ Wr B W4 g (.slice da dn dc) (M ++ [2] ++ enc k)) := ⟨H3.out.trans hf4, HBk.out.fr hf4 (by decide) (by decide), hw4⟩
  have c32 : W4.cell? ⟨d, 32, none⟩ = some (iv (j : Int)) := by rw [← HK.out.2.2.1]; exact H4.out.2.1.cell (Vx.line HV.out)
  clear hw4 hf4 HX HWr HBk HC H3 HM
  go_wp2_with fail
  refine (number_w H4.out.2.2 j (by simp only [List.length_append]; have := HP.out.2.2.2.2.1; have := enc_ten k (by have := HK.out.2.1; omega); simp; omega) (by have := HK.out.2.2.2.1; omega)).mono ?_
  rintro e W5 ⟨⟨rv5, rfl⟩, hw5, hf5⟩
  have HF : Hid (Wr B W5 g (.slice da dn dc) (M ++ R) ∧ Fr B w W5) := ⟨by have e1 : M ++ [2] ++ enc k ++ enc j = M ++ R := by rw [← HK.out.2.2.2.2]; simp
                                                                          rw [← e1]; exact hw5, H4.out.1.trans hf5⟩
  clear hw5 hf5 c32
  go_wp2
  go_end0
  exact ⟨⟨_, rfl⟩, HF.out.1, HF.out.2⟩
end Go.Proofs.YtgdecjacbkicmaaDoor.Oct

/- Layer 10 (patch): the writer: operations. -/
namespace Go.Proofs.YtgdecjacbkicmaaDoor.Oct
open Go.RowKit
set_option maxRecDepth 100000
set_option linter.unusedSimpArgs false
set_option linter.unusedVariables false

theorem flat_take {α : Type} (f : α → List UInt8) (l : List α) (i : Nat) (x : α) (h : l[i]? = some x) : (l.take (i + 1)).flatMap f = (l.take i).flatMap f ++ f x := by
  rw [List.take_add_one, h, List.flatMap_append]
  simp
theorem flat_len {α : Type} (f : α → List UInt8) (m : Nat) : ∀ (l : List α), (∀ x ∈ l, (f x).length ≤ m) → (l.flatMap f).length ≤ m * l.length
  | [], _ => by simp
  | x :: l, h => by
    have ih := flat_len f m l (fun y hy => h y (by simp [hy]))
    have h1 := h x (by simp)
    rw [List.flatMap_cons, List.length_append, List.length_cons, Nat.mul_add, Nat.mul_one]
    omega
theorem path_len {s : BA} (h : isPath s.data.toList = true) : s.size ≤ 64 := by
  have e : s.data.toList.length = s.size := rfl
  unfold isPath at h
  simp only [Bool.and_eq_true, decide_eq_true_eq] at h
  omega
theorem not_bad {t : BA} (h : bad t = false) : t.size ≤ 200 ∧ (10 : UInt8) ∉ t.data.toList := by
  unfold bad at h
  simp only [Bool.or_eq_false_iff, decide_eq_false_iff_not] at h
  exact ⟨by omega, h.2⟩
/-- what an operation that may be is like -/
theorem op_of {D : List Hs} {o : OpV} (h : opB D o = true) : isPath o.path.data.toList = true ∧ ((o.kind = 1 ∧ 0 < o.ln ∧ (∀ t ∈ o.ts, bad t = false) ∧ (eqVx o.up vTop = true ∨ eqVx o.up vBot = true ∨ lineOf D o.up = true) ∧ (eqVx o.dn vTop = true ∨ eqVx o.dn vBot = true ∨ lineOf D o.dn = true)) ∨ (o.kind = 2 ∧ o.ln = 0 ∧ o.dn = vTop ∧ lineOf D o.up = true)) := by
  unfold opB at h
  rw [Bool.and_eq_true, Bool.or_eq_true] at h
  refine ⟨h.1, ?_⟩
  rcases h.2 with h | h
  · left
    unfold addB at h
    simp only [Bool.and_eq_true, decide_eq_true_eq, Bool.not_eq_true', Bool.or_eq_true] at h
    obtain ⟨h1, h2, h3, h4, h5, _⟩ := h
    refine ⟨h1, by omega, fun t ht => ?_, ?_, ?_⟩
    · rw [List.any_eq_false] at h3
      have := h3 t ht
      simpa using this
    · rcases h4 with h | h
      · exact .inl h
      · exact .inr (.inr h)
    · rcases h5 with h | h
      · exact .inr (.inl h)
      · exact .inr (.inr h)
  · right
    unfold killB at h
    simp only [Bool.and_eq_true, decide_eq_true_eq] at h
    obtain ⟨h1, h2, h3, h4⟩ := h
    exact ⟨h1, h4, (eqVx_iff _ _).1 h3, h2⟩
theorem encO_len (D : List Hs) (o : OpV) (hD : D.length ≤ 100000) (h : opB D o = true) (ho : o.ts.length = o.ln) (hln : o.ln ≤ 64) : (encO D o).length ≤ 14000 := by
  obtain ⟨h1, h2⟩ := op_of h
  have hp := encT_len o.path (by have := path_len h1; omega)
  have hp2 := path_len h1
  unfold encO
  rw [List.length_cons, List.length_append, List.length_append]
  rcases h2 with ⟨hk, _, hb, hu, hd⟩ | ⟨hk, _, hd, hu⟩
  · rw [if_pos hk, List.length_append, List.length_append]
    have a1 := encV_len D o.up hD hu
    have a2 := encV_len D o.dn hD hd
    have a3 := enc_ten o.ln (by omega)
    have a4 := flat_len encT 210 o.ts (fun t ht => by have := (not_bad (hb t ht)).1; have := encT_len t (by omega); omega)
    rw [ho] at a4
    have : 210 * o.ln ≤ 210 * 64 := Nat.mul_le_mul_left _ hln
    omega
  · rw [if_neg (by omega)]
    have a1 := encV_len D o.up hD (.inr (.inr hu))
    simp only [List.length_nil]
    omega
set_option maxHeartbeats 2000000 in
theorem opW_is {B : Nat} {w : World} {g : Nat} {da : Option Addr} {dn dc : Nat} {M : List UInt8} (h : Wr B w g (.slice da dn dc) M) (D : List Hs) (hD : ∀ V, Below B w V → HsR V da dn D) (hdn : dn ≤ 100000) (o : OpV) (ho : o.ok) (hs : ∀ V, Below B w V → Strs V o.la o.ln o.ts) (hB : opB D o = true) (hln : o.ln ≤ 64) (hM : M.length ≤ 800000) (R : List UInt8) (hR : encO D o = R) :
    Calls Tryd.prog 23 #[.pointer (some ⟨g, 0, none⟩), .agg o.cells.toArray] w (WrP B g (.slice da dn dc) (M ++ R) w) := by
  have HP : Hid ((∀ V, Below B w V → HsR V da dn D) ∧ dn ≤ 100000 ∧ o.ok ∧ (∀ V, Below B w V → Strs V o.la o.ln o.ts) ∧ M.length ≤ 800000 ∧ B ≤ w.heap.size) := ⟨hD, hdn, ho, hs, hM, h.lt.2⟩
  obtain ⟨hpa, hof⟩ := op_of hB
  have hDl := (hD w (Below.refl _ _)).1
  have HPA : Hid (o.path.size ≤ 64 ∧ D.length ≤ 100000) := ⟨path_len hpa, by omega⟩
  obtain ⟨d, hd⟩ : ∃ d, w.heap.size = d := ⟨_, rfl⟩
  obtain ⟨W, hW⟩ : ∃ W, w.alloc (.cells o.cells.toArray 45) = W := ⟨_, rfl⟩
  have hbw : Below w.heap.size w W := by rw [← hW]; exact below_al _ _
  have hk : OpB W d o := ⟨by rw [← hW, ← hd]; exact Blk.new w _ _, ho⟩
  have c0 := hk.kind
  have H0 : Hid (Fr B w W ∧ OpB W d o ∧ Wr B W g (.slice da dn dc) M) := ⟨Fr.of_below hbw h.lt.2, hk, h.below hbw⟩
  obtain ⟨kd, hkd⟩ : ∃ m, o.kind = m := ⟨_, rfl⟩
  have HKD : Hid (o.kind = kd) := hkd
  rw [hkd] at c0 hof
  have hU : eqVx o.up vTop = true ∨ eqVx o.up vBot = true ∨ lineOf D o.up = true := by
    rcases hof with ⟨_, _, _, h, _⟩ | ⟨_, _, _, h⟩
    · exact h
    · exact .inr (.inr h)
  have HU : Hid (eqVx o.up vTop = true ∨ eqVx o.up vBot = true ∨ lineOf D o.up = true) := hU
  obtain ⟨E1, hE1⟩ : ∃ E, encT o.path = E := ⟨_, rfl⟩
  obtain ⟨E2, hE2⟩ : ∃ E, encV D o.up = E := ⟨_, rfl⟩
  have HE : Hid (encT o.path = E1 ∧ encV D o.up = E2 ∧ E1.length ≤ 80 ∧ E2.length ≤ 21) := ⟨hE1, hE2, by rw [← hE1]; have := encT_len o.path (by have := HPA.out.1; omega); have := HPA.out.1; omega, by rw [← hE2]; exact encV_len D o.up HPA.out.2 hU⟩
  unfold encO at hR
  rw [hkd, hE1, hE2] at hR
  clear h hD hdn ho hs hB hM hbw hk hkd hU hE1 hE2 hpa hDl
  rcases hof with ⟨hk1, _, hbad, _, hdn⟩ | ⟨hk1, hl0, hdt, hul⟩
  · subst hk1
    rw [if_pos rfl] at hR
    have HB : Hid (∀ t ∈ o.ts, t.size ≤ 200) := fun t ht => (not_bad (hbad t ht)).1
    have HDn : Hid (eqVx o.dn vTop = true ∨ eqVx o.dn vBot = true ∨ lineOf D o.dn = true) := hdn
    obtain ⟨E3, hE3⟩ : ∃ E, encV D o.dn = E := ⟨_, rfl⟩
    obtain ⟨E4, hE4⟩ : ∃ E, enc o.ln = E := ⟨_, rfl⟩
    have HE3 : Hid (encV D o.dn = E3 ∧ enc o.ln = E4 ∧ E3.length ≤ 21 ∧ E4.length ≤ 10 ∧ o.ln ≤ 64 ∧ o.ts.length = o.ln) := ⟨hE3, hE4, by rw [← hE3]; exact encV_len D o.dn HPA.out.2 hdn, by rw [← hE4]; exact enc_ten o.ln (by omega), hln, HP.out.2.2.1.2.2.1⟩
    rw [hE3, hE4] at hR
    have HR : Hid (UInt8.ofNat (1 : Int).toNat :: (E1 ++ (E2 ++ (E3 ++ (E4 ++ o.ts.flatMap encT)))) = R) := hR
    have qln : (o.ln : Int) ≤ 64 := by omega
    clear hbad hdn hE3 hE4 hR hln
    go_enter Tryd.func23, Tryd.ntmps23
    go_wp2_with fail
    refine (mark_is H0.out.2.2 1 (by have := HP.out.2.2.2.2.1; omega)).mono ?_
    rintro e W1 ⟨⟨rv1, rfl⟩, hw1, hf1⟩
    have H1 : Hid (Fr B w W1 ∧ OpB W1 d o ∧ Wr B W1 g (.slice da dn dc) (M ++ [1])) := ⟨H0.out.1.trans hf1, ⟨H0.out.2.1.blk.fr hf1 (by decide) (by decide), H0.out.2.1.ok⟩, hw1⟩
    have c1 := H1.out.2.1.path
    clear hw1 hf1 hW hd c0 H0
    go_wp2_with fail
    refine (text_is H1.out.2.2 o.path (by rw [List.length_append]; have := HP.out.2.2.2.2.1; simp; omega) (by have := HPA.out.1; omega)).mono ?_
    rintro e W2 ⟨⟨rv2, rfl⟩, hw2, hf2⟩
    rw [HE.out.1] at hw2
    have H2 : Hid (Fr B w W2 ∧ OpB W2 d o ∧ Wr B W2 g (.slice da dn dc) (M ++ [1] ++ E1)) := ⟨H1.out.1.trans hf2, ⟨H1.out.2.1.blk.fr hf2 (by decide) (by decide), H1.out.2.1.ok⟩, hw2⟩
    clear hw2 hf2 c1 H1
    go_wp2_with (with_reducible change wpList _ _ _ ({ dst := some 17, op := _, type := _, pos := _, after := _, guard := _ } :: _) _ _; refine Hid.out ?_)
    show wpList _ _ _ _ _ _
    refine wpList_load_mid rfl 42 (.tmp 16) rfl d 2 rfl o.up.cells _ H2.out.2.1.up Tryd.underlying42 rfl (info49 HP.out.2.2.1.1) ?_
    go_wp2_with fail
    refine (vertex_is H2.out.2.2 D (fun V hV => HP.out.1 V (H2.out.1.below.trans hV)) HP.out.2.1 o.up HP.out.2.2.1.1 HU.out (by simp only [List.length_append]; have := HP.out.2.2.2.2.1; have := HE.out.2.2.1; simp; omega) E2 HE.out.2.1).mono ?_
    rintro e W3 ⟨⟨rv3, rfl⟩, hw3, hf3⟩
    have H3 : Hid (Fr B w W3 ∧ OpB W3 d o ∧ Wr B W3 g (.slice da dn dc) (M ++ [1] ++ E1 ++ E2)) := ⟨H2.out.1.trans hf3, ⟨H2.out.2.1.blk.fr hf3 (by decide) (by decide), H2.out.2.1.ok⟩, hw3⟩
    have c0 : W3.cell? ⟨d, 0, none⟩ = some (iv 1) := by rw [← HKD.out]; exact H3.out.2.1.kind
    clear hw3 hf3 H2
    go_wp2_with (with_reducible change wpList _ _ _ ({ dst := some 24, op := _, type := _, pos := _, after := _, guard := _ } :: _) _ _; refine Hid.out ?_)
    show wpList _ _ _ _ _ _
    refine wpList_load_mid rfl 42 (.tmp 23) rfl d 35 rfl o.dn.cells _ H3.out.2.1.dn Tryd.underlying42 rfl (info49 HP.out.2.2.1.2.1) ?_
    go_wp2_with fail
    refine (vertex_is H3.out.2.2 D (fun V hV => HP.out.1 V (H3.out.1.below.trans hV)) HP.out.2.1 o.dn HP.out.2.2.1.2.1 HDn.out (by simp only [List.length_append]; have := HP.out.2.2.2.2.1; have := HE.out.2.2; simp; omega) E3 HE3.out.1).mono ?_
    rintro e W4 ⟨⟨rv4, rfl⟩, hw4, hf4⟩
    have H4 : Hid (Fr B w W4 ∧ OpB W4 d o ∧ Wr B W4 g (.slice da dn dc) (M ++ [1] ++ E1 ++ E2 ++ E3)) := ⟨H3.out.1.trans hf4, ⟨H3.out.2.1.blk.fr hf4 (by decide) (by decide), H3.out.2.1.ok⟩, hw4⟩
    have c68 := H4.out.2.1.lines
    clear hw4 hf4 c0 H3
    go_wp2_with fail
    refine (number_w H4.out.2.2 o.ln (by simp only [List.length_append]; have := HP.out.2.2.2.2.1; have := HE.out.2.2; have := HE3.out.2.2.1; simp; omega) (by have := HE3.out.2.2.2.2.1; omega)).mono ?_
    rintro e W5 ⟨⟨rv5, rfl⟩, hw5, hf5⟩
    rw [HE3.out.2.1] at hw5
    have H5 : Hid (Fr B w W5 ∧ OpB W5 d o ∧ Wr B W5 g (.slice da dn dc) (M ++ [1] ++ E1 ++ E2 ++ E3 ++ E4)) := ⟨H4.out.1.trans hf5, ⟨H4.out.2.1.blk.fr hf5 (by decide) (by decide), H4.out.2.1.ok⟩, hw5⟩
    clear hw5 hf5 c68 H4
    have c68 := H5.out.2.1.lines
    obtain ⟨M5, hM5⟩ : ∃ M5, M ++ [1] ++ E1 ++ E2 ++ E3 ++ E4 = M5 := ⟨_, rfl⟩
    have HM5 : Hid (M ++ [1] ++ E1 ++ E2 ++ E3 ++ E4 = M5 ∧ M5.length ≤ 800200 ∧ Wr B W5 g (.slice da dn dc) M5 ∧ Fr B w W5) := ⟨hM5, by rw [← hM5]; simp only [List.length_append]; have := HP.out.2.2.2.2.1; have := HE.out.2.2; have := HE3.out.2.2; simp; omega, by rw [← hM5]; exact H5.out.2.2, H5.out.1⟩
    clear hM5 H5
    obtain ⟨ln, hlnn⟩ : ∃ n, o.ln = n := ⟨_, rfl⟩
    obtain ⟨la, hla⟩ : ∃ n, o.la = n := ⟨_, rfl⟩
    obtain ⟨lc, hlc⟩ : ∃ n, o.lc = n := ⟨_, rfl⟩
    have HLN : Hid (o.ln = ln ∧ o.la = la ∧ ln ≤ 64 ∧ o.ts.length = ln) := ⟨hlnn, hla, by rw [← hlnn]; exact HE3.out.2.2.2.2.1, by rw [← hlnn]; exact HE3.out.2.2.2.2.2⟩
    rw [hlnn, hla, hlc] at c68
    rw [hlnn] at qln
    clear hlnn hla hlc
    go_wp2_with fail
    go_loopw [34] (fun u wr => ∃ i : Nat, u = iv (i : Int) ∧ (i : Int) ≤ (ln : Int) ∧ Hid (Wr B wr g (.slice da dn dc) (M5 ++ (o.ts.take i).flatMap encT) ∧ Fr B w wr)) (fun u _ => ln - (intOf u).toNat)
    case atStart => exact ⟨0, rfl, by omega, by simpa using HM5.out.2.2.1, HM5.out.2.2.2⟩
    case round =>
      obtain ⟨V, hV⟩ : ∃ V, V = wr := ⟨_, rfl⟩
      subst hV
      obtain ⟨i, rfl, qi, HI⟩ := hrel
      clear c68
      by_cases hi : i < ln
      · obtain ⟨x, hx⟩ : ∃ x, o.ts[i]? = some x := ⟨_, List.getElem?_eq_getElem (by rw [HLN.out.2.2.2]; exact hi)⟩
        have hst := HP.out.2.2.2.1 w (Below.refl _ _)
        rw [HLN.out.1, HLN.out.2.1] at hst
        obtain ⟨gg, off, rfl, hg, hel⟩ := hst.2 (by omega)
        have hst2 := HP.out.2.2.2.1 V HI.out.2.below
        rw [HLN.out.1, HLN.out.2.1] at hst2
        obtain ⟨gg2, off2, e2, hg2, hel2⟩ := hst2.2 (by omega)
        cases e2
        have cx : V.cell? ⟨gg, off + i, none⟩ = some (.string x) := hel2 i x hx
        have hxs := HB.out x (List.mem_of_getElem? hx)
        have hfl := flat_take encT o.ts i x hx
        have hfb := flat_len encT 210 (o.ts.take i) (fun t ht => by have := HB.out t (List.mem_of_mem_take ht); have := encT_len t (by omega); omega)
        have htl : (o.ts.take i).length ≤ 64 := by rw [List.length_take]; have := HLN.out.2.2.1; omega
        have HX : Hid (i < ln ∧ x.size ≤ 200 ∧ (o.ts.take (i + 1)).flatMap encT = (o.ts.take i).flatMap encT ++ encT x ∧ ((o.ts.take i).flatMap encT).length ≤ 13440) := ⟨hi, hxs, hfl, by have : 210 * (o.ts.take i).length ≤ 210 * 64 := Nat.mul_le_mul_left _ htl; omega⟩
        have q1 : (i : Int) < (ln : Int) := by omega
        clear hst hst2 hg hel hg2 hel2 hx hxs hfl hfb htl hi qi
        go_wp2_with fail
        refine (text_is HI.out.1 x (by rw [List.length_append]; have := HM5.out.2.1; have := HX.out.2.2.2; omega) (by have := HX.out.2.1; omega)).mono ?_
        rintro e V2 ⟨⟨rv6, rfl⟩, hw6, hf6⟩
        have H6 : Hid (Wr B V2 g (.slice da dn dc) (M5 ++ (o.ts.take (i + 1)).flatMap encT) ∧ Fr B w V2 ∧ i < ln) := ⟨by rw [HX.out.2.2.1, ← List.append_assoc]; exact hw6, HI.out.2.trans hf6, HX.out.1⟩
        clear hw6 hf6 cx
        go_wp2
        go_roundw
        case rel => exact ⟨i + 1, by simp, by have := H6.out.2.2; omega, H6.out.1, H6.out.2.1⟩
        case measure => have := H6.out.2.2; simp only [intOf]; omega
      · have q1 : (ln : Int) ≤ (i : Int) := by omega
        have HF : Hid (Wr B V g (.slice da dn dc) (M ++ R) ∧ Fr B w V) := by
          refine ⟨?_, HI.out.2⟩
          have h1 := HI.out.1
          rw [List.take_of_length_le (by rw [HLN.out.2.2.2]; omega)] at h1
          have e1 : M5 ++ o.ts.flatMap encT = M ++ R := by
            rw [← HR.out, ← HM5.out.1]
            simp only [List.append_assoc, List.cons_append, List.nil_append]
            rfl
          rw [← e1]
          exact h1
        clear hi
        go_wp2
        go_end0
        exact ⟨⟨_, rfl⟩, HF.out.1, HF.out.2⟩
  · subst hk1
    rw [if_neg (by decide), List.append_nil] at hR
    have HR : Hid (UInt8.ofNat (2 : Int).toNat :: (E1 ++ E2) = R) := hR
    clear hl0 hdt hul hR hln
    go_enter Tryd.func23, Tryd.ntmps23
    go_wp2_with fail
    refine (mark_is H0.out.2.2 2 (by have := HP.out.2.2.2.2.1; omega)).mono ?_
    rintro e W1 ⟨⟨rv1, rfl⟩, hw1, hf1⟩
    have H1 : Hid (Fr B w W1 ∧ OpB W1 d o ∧ Wr B W1 g (.slice da dn dc) (M ++ [2])) := ⟨H0.out.1.trans hf1, ⟨H0.out.2.1.blk.fr hf1 (by decide) (by decide), H0.out.2.1.ok⟩, hw1⟩
    have c1 := H1.out.2.1.path
    clear hw1 hf1 hW hd c0 H0
    go_wp2_with fail
    refine (text_is H1.out.2.2 o.path (by rw [List.length_append]; have := HP.out.2.2.2.2.1; simp; omega) (by have := HPA.out.1; omega)).mono ?_
    rintro e W2 ⟨⟨rv2, rfl⟩, hw2, hf2⟩
    rw [HE.out.1] at hw2
    have H2 : Hid (Fr B w W2 ∧ OpB W2 d o ∧ Wr B W2 g (.slice da dn dc) (M ++ [2] ++ E1)) := ⟨H1.out.1.trans hf2, ⟨H1.out.2.1.blk.fr hf2 (by decide) (by decide), H1.out.2.1.ok⟩, hw2⟩
    clear hw2 hf2 c1 H1
    go_wp2_with (with_reducible change wpList _ _ _ ({ dst := some 17, op := _, type := _, pos := _, after := _, guard := _ } :: _) _ _; refine Hid.out ?_)
    show wpList _ _ _ _ _ _
    refine wpList_load_mid rfl 42 (.tmp 16) rfl d 2 rfl o.up.cells _ H2.out.2.1.up Tryd.underlying42 rfl (info49 HP.out.2.2.1.1) ?_
    go_wp2_with fail
    refine (vertex_is H2.out.2.2 D (fun V hV => HP.out.1 V (H2.out.1.below.trans hV)) HP.out.2.1 o.up HP.out.2.2.1.1 HU.out (by simp only [List.length_append]; have := HP.out.2.2.2.2.1; have := HE.out.2.2.1; simp; omega) E2 HE.out.2.1).mono ?_
    rintro e W3 ⟨⟨rv3, rfl⟩, hw3, hf3⟩
    have H3 : Hid (Fr B w W3 ∧ OpB W3 d o ∧ Wr B W3 g (.slice da dn dc) (M ++ [2] ++ E1 ++ E2)) := ⟨H2.out.1.trans hf3, ⟨H2.out.2.1.blk.fr hf3 (by decide) (by decide), H2.out.2.1.ok⟩, hw3⟩
    have c0 : W3.cell? ⟨d, 0, none⟩ = some (iv 2) := by rw [← HKD.out]; exact H3.out.2.1.kind
    clear hw3 hf3 H2
    have HF : Hid (Wr B W3 g (.slice da dn dc) (M ++ R) ∧ Fr B w W3) := by
      refine ⟨?_, H3.out.1⟩
      have e1 : M ++ [2] ++ E1 ++ E2 = M ++ R := by
        rw [← HR.out]
        simp only [List.append_assoc, List.cons_append, List.nil_append]
        rfl
      rw [← e1]
      exact H3.out.2.2
    clear H3
    go_wp2
    go_end0
    exact ⟨⟨_, rfl⟩, HF.out.1, HF.out.2⟩
end Go.Proofs.YtgdecjacbkicmaaDoor.Oct

/- Layer 10 (patch): Encode. -/
namespace Go.Proofs.YtgdecjacbkicmaaDoor.Oct
open Go.RowKit
set_option maxRecDepth 100000
set_option linter.unusedSimpArgs false
set_option linter.unusedVariables false

set_option maxRecDepth 100000 in
set_option maxHeartbeats 4000000 in
theorem pw9 {Q : Exit → Act → World → Prop} {x1 x2 x3 x4 x6 x7 x8 x9 x10 x11 x12 x13 x14 x15 x16 x17 x18 x19 x20 x21 x22 x23 x24 x25 x26 x27 x28 x29 x30 x31 x32 x33 x34 x35 x36 x37 x38 x39 x40 x41 x42 x43 x44 x45 x46 x47 x48 x49 x50 x51 x52 x53 x54 x55 x56 x57 x58 x59 : Value} {ds : List Deferred} {A : World} {B g n c d5 : Nat} {va : Option Addr} {dv : Value} {M T : List UInt8} {i0 : TypeInfo}
    (HI5 : Hid (Tryd.prog.info? 5 = some i0 ∧ i0.zero = some (.int .u8 0) ∧ i0.size = 1 ∧ i0.bytes = 1)) (HX : Hid (B ≤ g ∧ B ≤ A.heap.size ∧ M.length + 32 ≤ 140737488355328)) (HG : Hid (Blk A g 48 [.slice va n c, dv] ∧ Own 5 B A (.slice va n c) M)) (HT : Hid (In A (some ⟨d5, 0, none⟩) 32 32 T))
    (hQ : ∀ V1 va2 n2 c2, Wr B V1 g dv (M ++ T) → Fr B A V1 → Q .normal { tmps := #[.pointer (some ⟨g, 0, none⟩), x1, x2, x3, x4, .pointer (some ⟨d5, 0, none⟩), x6, x7, x8, x9, x10, x11, x12, x13, x14, x15, x16, x17, x18, x19, x20, x21, x22, x23, x24, x25, x26, x27, x28, x29, x30, x31, x32, x33, .pointer (some ⟨g, 0, none⟩), .pointer (some ⟨g, 0, none⟩), .pointer (some ⟨g, 0, none⟩), .pointer (some ⟨g, 0, none⟩), .slice va n c, .slice (some ⟨d5, 0, none⟩) 32 32, .slice va2 n2 c2, .pointer (some ⟨g, 0, none⟩), .pointer (some ⟨g, 0, none⟩), x43, x44, x45, x46, x47, x48, x49, x50, x51, x52, x53, x54, x55, x56, x57, x58, x59], defers := ds } V1) :
    (Code.region 9 #[{ dst := some 34, op := Op.move (Operand.tmp 0), type := 55, pos := "code.go:38", after := #[], guard := none }, { dst := some 35, op := Op.move (Operand.tmp 0), type := 55, pos := "code.go:38", after := #[], guard := none }, { dst := some 36, op := Op.nilCheck (Operand.tmp 35), type := 0, pos := "code.go:38", after := #[{ on := 1, ground := Ground.data }], guard := none }, { dst := some 37, op := Op.fieldAddr 48 (Operand.tmp 36) 0, type := 0, pos := "code.go:38", after := #[{ on := 2, ground := Ground.data }], guard := none }, { dst := some 38, op := Op.load 28 (Operand.tmp 37), type := 28, pos := "code.go:38", after := #[{ on := 3, ground := Ground.data }], guard := none }, { dst := some 39, op := Op.slice 36 (Operand.tmp 5) none none none, type := 28, pos := "code.go:38", after := #[], guard := none }, { dst := some 40, op := Op.call { callee := Callee.builtin Builtin.append, args := #[Operand.tmp 38, Operand.tmp 39], argTypes := #[28, 28] }, type := 28, pos := "code.go:38", after := #[{ on := 4, ground := Ground.data }, { on := 5, ground := Ground.data }], guard := none }, { dst := some 41, op := Op.nilCheck (Operand.tmp 34), type := 0, pos := "code.go:38", after := #[{ on := 0, ground := Ground.data }, { on := 0, ground := Ground.phase }, { on := 1, ground := Ground.phase }, { on := 2, ground := Ground.phase }, { on := 3, ground := Ground.phase }, { on := 4, ground := Ground.phase }, { on := 5, ground := Ground.phase }, { on := 6, ground := Ground.phase }], guard := none }, { dst := some 42, op := Op.fieldAddr 48 (Operand.tmp 41) 0, type := 0, pos := "code.go:38", after := #[{ on := 7, ground := Ground.data }, { on := 0, ground := Ground.phase }, { on := 1, ground := Ground.phase }, { on := 2, ground := Ground.phase }, { on := 3, ground := Ground.phase }, { on := 4, ground := Ground.phase }, { on := 5, ground := Ground.phase }, { on := 6, ground := Ground.phase }], guard := none }, { dst := none, op := Op.store 28 (Operand.tmp 42) (Operand.tmp 40), type := 0, pos := "code.go:38", after := #[{ on := 8, ground := Ground.data }, { on := 6, ground := Ground.data }, { on := 6, ground := Ground.chain }, { on := 0, ground := Ground.phase }, { on := 1, ground := Ground.phase }, { on := 2, ground := Ground.phase }, { on := 3, ground := Ground.phase }, { on := 4, ground := Ground.phase }, { on := 5, ground := Ground.phase }, { on := 6, ground := Ground.phase }], guard := none }] true).wp Tryd.prog Q { tmps := #[.pointer (some ⟨g, 0, none⟩), x1, x2, x3, x4, .pointer (some ⟨d5, 0, none⟩), x6, x7, x8, x9, x10, x11, x12, x13, x14, x15, x16, x17, x18, x19, x20, x21, x22, x23, x24, x25, x26, x27, x28, x29, x30, x31, x32, x33, x34, x35, x36, x37, x38, x39, x40, x41, x42, x43, x44, x45, x46, x47, x48, x49, x50, x51, x52, x53, x54, x55, x56, x57, x58, x59], defers := ds } A := by
  refine Code.wp_mono (Q := fun x a' w' => match x with | .normal => Q .normal a' w' | _ => False) (by intro x a' w' h; cases x <;> first | exact h | exact h.elim) ?_
  refine wp_region_held (S := fun V => Fr B A V) (by kernel_rfl) ?_
  have hS0 : Hid (Fr B A A.drew) := Fr.of_below (below_drew0 A) HX.out.2.1
  change wpAnyH Tryd.prog .any _ _ (fun V => Fr B A V) 10 (Array.replicate 10 false) _ A.drew
  obtain ⟨V0, hV0⟩ : ∃ V0, A.drew = V0 := ⟨_, rfl⟩
  rw [hV0]
  rw [hV0] at hS0
  have hG0 : Hid (Blk V0 g 48 [.slice va n c, dv] ∧ Own 5 B V0 (.slice va n c) M) := by rw [← hV0]; exact HG.out
  have hT0 : Hid (In V0 (some ⟨d5, 0, none⟩) 32 32 T) := by rw [← hV0]; exact HT.out
  clear hV0
  refine wpAnyH_take (i := 0) (oi := { dst := some 34, op := Op.move (Operand.tmp 0), type := 55, pos := "code.go:38", after := #[], guard := none }) (v := .pointer (some ⟨g, 0, none⟩)) rfl (by kernel_rfl) (by kernel_rfl) (by kernel_rfl) (fun _ _ _ h => h.elim) (Or.inl ⟨by rfl, ?y1⟩) hS0.out ?_
  case y1 =>
    intro V hV
    go_simp
  simp only [Act.put, List.setIfInBounds_toArray, List.set_cons_zero, List.set_cons_succ]
  refine wpAnyH_take (i := 1) (oi := { dst := some 35, op := Op.move (Operand.tmp 0), type := 55, pos := "code.go:38", after := #[], guard := none }) (v := .pointer (some ⟨g, 0, none⟩)) rfl (by kernel_rfl) (by kernel_rfl) (by kernel_rfl) (fun _ _ _ h => h.elim) (Or.inl ⟨by rfl, ?y2⟩) hS0.out ?_
  case y2 =>
    intro V hV
    go_simp
  simp only [Act.put, List.setIfInBounds_toArray, List.set_cons_zero, List.set_cons_succ]
  refine wpAnyH_take (i := 2) (oi := { dst := some 36, op := Op.nilCheck (Operand.tmp 35), type := 0, pos := "code.go:38", after := #[{ on := 1, ground := Ground.data }], guard := none }) (v := .pointer (some ⟨g, 0, none⟩)) rfl (by kernel_rfl) (by kernel_rfl) (by kernel_rfl) (fun _ _ _ h => h.elim) (Or.inl ⟨by rfl, ?y3⟩) hS0.out ?_
  case y3 =>
    intro V hV
    go_simp
  simp only [Act.put, List.setIfInBounds_toArray, List.set_cons_zero, List.set_cons_succ]
  refine wpAnyH_take (i := 3) (oi := { dst := some 37, op := Op.fieldAddr 48 (Operand.tmp 36) 0, type := 0, pos := "code.go:38", after := #[{ on := 2, ground := Ground.data }], guard := none }) (v := .pointer (some ⟨g, 0, none⟩)) rfl (by kernel_rfl) (by kernel_rfl) (by kernel_rfl) (fun _ _ _ h => h.elim) (Or.inl ⟨by rfl, ?y4⟩) hS0.out ?_
  case y4 =>
    intro V hV
    go_simp
  simp only [Act.put, List.setIfInBounds_toArray, List.set_cons_zero, List.set_cons_succ]
  refine wpAnyH_take (i := 5) (oi := { dst := some 39, op := Op.slice 36 (Operand.tmp 5) none none none, type := 28, pos := "code.go:38", after := #[], guard := none }) (v := .slice (some ⟨d5, 0, none⟩) 32 32) rfl (by kernel_rfl) (by kernel_rfl) (by kernel_rfl) (fun _ _ _ h => h.elim) (Or.inl ⟨by rfl, ?y5⟩) hS0.out ?_
  case y5 =>
    intro V hV
    go_simp
  simp only [Act.put, List.setIfInBounds_toArray, List.set_cons_zero, List.set_cons_succ]
  refine wpAnyH_ready (rs := [4]) (by kernel_rfl) (by simp) (AllReadyH.cons (i := 4) (o := { dst := some 38, op := Op.load 28 (Operand.tmp 37), type := 28, pos := "code.go:38", after := #[{ on := 3, ground := Ground.data }], guard := none }) rfl ?_ AllReadyH.nil)
  · intro K1 hK1
    rw [if_pos (by rfl)]
    have hc1 : V0.cell? ⟨g, 0, none⟩ = some (.slice va n c) := hG0.out.1.cell rfl
    go_wp2
    clear hc1
    refine hK1.out _ _ hS0.out ?_
    clear hK1
    intro _
    try simp only [Act.put, List.setIfInBounds_toArray, List.set_cons_zero, List.set_cons_succ]
    refine wpAnyH_ready (rs := [6]) (by kernel_rfl) (by simp) (AllReadyH.cons (i := 6) (o := { dst := some 40, op := Op.call { callee := Callee.builtin Builtin.append, args := #[Operand.tmp 38, Operand.tmp 39], argTypes := #[28, 28] }, type := 28, pos := "code.go:38", after := #[{ on := 4, ground := Ground.data }, { on := 5, ground := Ground.data }], guard := none }) rfl ?_ AllReadyH.nil)
    · intro K1 hK1
      refine step_append_in V0 (by rfl) (.tmp 38) (.tmp 39) 28 rfl B 5 i0 Tryd.underlying28 HI5.out.1 HI5.out.2.1 HI5.out.2.2.1 HI5.out.2.2.2 (.slice va n c) M M.length rfl rfl hG0.out.2 (some ⟨d5, 0, none⟩) 32 32 T rfl hT0.out (by have := HX.out.2.2; omega) (Nat.le_trans HX.out.2.1 hS0.out.size) ?_
      intro v5 V2 ho5 hg5
      obtain ⟨va2, n2, c2, rfl, -⟩ := sl_of5 ho5
      have hS2 : Hid (Fr B A V2) := hS0.out.trans (fr_own hG0.out.2 hg5 (Nat.le_trans HX.out.2.1 hS0.out.size))
      have hP2 : Hid (Blk V2 g 48 [.slice va n c, dv] ∧ Wr B (V2.setCell ⟨g, 0, none⟩ (.slice va2 n2 c2)) g dv (M ++ T) ∧ Fr B A (V2.setCell ⟨g, 0, none⟩ (.slice va2 n2 c2))) := ⟨(Wr.put hG0.out.1 hG0.out.2 HX.out.1 hg5 ho5).1, (Wr.put hG0.out.1 hG0.out.2 HX.out.1 hg5 ho5).2.1, hS0.out.trans (Wr.put hG0.out.1 hG0.out.2 HX.out.1 hg5 ho5).2.2⟩
      clear ho5 hg5
      refine hK1.out _ _ hS2.out ?_
      clear hK1
      intro _
      try simp only [Act.put, List.setIfInBounds_toArray, List.set_cons_zero, List.set_cons_succ]
      refine wpAnyH_take (i := 7) (oi := { dst := some 41, op := Op.nilCheck (Operand.tmp 34), type := 0, pos := "code.go:38", after := #[{ on := 0, ground := Ground.data }, { on := 0, ground := Ground.phase }, { on := 1, ground := Ground.phase }, { on := 2, ground := Ground.phase }, { on := 3, ground := Ground.phase }, { on := 4, ground := Ground.phase }, { on := 5, ground := Ground.phase }, { on := 6, ground := Ground.phase }], guard := none }) (v := .pointer (some ⟨g, 0, none⟩)) rfl (by kernel_rfl) (by kernel_rfl) (by kernel_rfl) (fun _ _ _ h => h.elim) (Or.inl ⟨by rfl, ?y6⟩) hS2.out ?_
      case y6 =>
        intro V hV
        go_simp
      simp only [Act.put, List.setIfInBounds_toArray, List.set_cons_zero, List.set_cons_succ]
      refine wpAnyH_take (i := 8) (oi := { dst := some 42, op := Op.fieldAddr 48 (Operand.tmp 41) 0, type := 0, pos := "code.go:38", after := #[{ on := 7, ground := Ground.data }, { on := 0, ground := Ground.phase }, { on := 1, ground := Ground.phase }, { on := 2, ground := Ground.phase }, { on := 3, ground := Ground.phase }, { on := 4, ground := Ground.phase }, { on := 5, ground := Ground.phase }, { on := 6, ground := Ground.phase }], guard := none }) (v := .pointer (some ⟨g, 0, none⟩)) rfl (by kernel_rfl) (by kernel_rfl) (by kernel_rfl) (fun _ _ _ h => h.elim) (Or.inl ⟨by rfl, ?y7⟩) hS2.out ?_
      case y7 =>
        intro V hV
        go_simp
      simp only [Act.put, List.setIfInBounds_toArray, List.set_cons_zero, List.set_cons_succ]
      refine wpAnyH_ready (rs := [9]) (by kernel_rfl) (by simp) (AllReadyH.cons (i := 9) (o := { dst := none, op := Op.store 28 (Operand.tmp 42) (Operand.tmp 40), type := 0, pos := "code.go:38", after := #[{ on := 8, ground := Ground.data }, { on := 6, ground := Ground.data }, { on := 6, ground := Ground.chain }, { on := 0, ground := Ground.phase }, { on := 1, ground := Ground.phase }, { on := 2, ground := Ground.phase }, { on := 3, ground := Ground.phase }, { on := 4, ground := Ground.phase }, { on := 5, ground := Ground.phase }, { on := 6, ground := Ground.phase }], guard := none }) rfl ?_ AllReadyH.nil)
      · intro K1 hK1
        refine step_st36 (by rfl) (.tmp 42) (.tmp 40) rfl g n2 c2 va2 (.slice va n c) dv rfl rfl hP2.out.1 ?_
        obtain ⟨V3, hv3⟩ : ∃ V, V2.setCell ⟨g, 0, none⟩ (.slice va2 n2 c2) = V := ⟨_, rfl⟩
        have hF3 : Hid (Wr B V3 g dv (M ++ T) ∧ Fr B A V3) := by have h := hP2.out.2; rw [hv3] at h; exact h
        rw [hv3]
        refine hK1.out _ _ hF3.out.2 ?_
        clear hK1
        intro _
        try simp only [Act.put, List.setIfInBounds_toArray, List.set_cons_zero, List.set_cons_succ]
        refine wpAnyH_done (by kernel_rfl) ?_ _
        exact hQ V3 va2 n2 c2 hF3.out.1 hF3.out.2
def ptB (p : PV) : List UInt8 := 80 :: (encT p.au ++ (enc p.tm.toNat ++ (encT p.nt ++ (enc p.dn ++ (p.D.flatMap id ++ (enc p.on ++ p.O.flatMap (encO p.D)))))))
/-- what a patch that may be is like -/
theorem chk_of {p : PV} (h : chk p = 0) : headB p = true ∧ depsB p.D = true ∧ opsB p.D p.O = true := by
  unfold chk at h
  cases h1 : headB p with
  | false => rw [h1, if_pos rfl] at h; omega
  | true =>
    rw [h1, if_neg (by decide)] at h
    cases h2 : depsB p.D with
    | false => rw [h2, if_pos rfl] at h; omega
    | true =>
      rw [h2, if_neg (by decide)] at h
      cases h3 : opsB p.D p.O with
      | false => rw [h3, if_pos rfl] at h; omega
      | true => exact ⟨rfl, rfl, rfl⟩
theorem head_of {p : PV} (h : headB p = true) : p.au.size ≤ 16 ∧ 0 ≤ p.tm ∧ p.tm ≤ 1099511627776 ∧ p.nt.size ≤ 200 ∧ isName p.au.data.toList = true := by
  unfold headB at h
  simp only [Bool.and_eq_true, decide_eq_true_eq] at h
  obtain ⟨h1, h2, h3, h4⟩ := h
  refine ⟨?_, h2, h3, by omega, h1⟩
  have e : p.au.data.toList.length = p.au.size := rfl
  unfold isName at h1
  rw [Bool.and_eq_true] at h1
  have := (word_pos h1.1).2
  omega
theorem deps_of {D : List Hs} (h : depsB D = true) : D.length ≤ 16 ∧ rises z32 D = true := by
  unfold depsB at h
  simpa using h
theorem ops_of {D : List Hs} {O : List OpV} (h : opsB D O = true) : 1 ≤ O.length ∧ O.length ≤ 16 ∧ many O ≤ 64 ∧ ∀ o ∈ O, opB D o = true := by
  unfold opsB at h
  simpa using h
theorem many_mem : ∀ {O : List OpV} {o : OpV}, o ∈ O → o.ln ≤ many O
  | [], o, h => by cases h
  | x :: O, o, h => by
    have e : many (x :: O) = x.ln + many O := by unfold many; rw [List.map_cons, List.sum_cons]
    rcases List.mem_cons.1 h with rfl | h
    · omega
    · have := many_mem h
      omega
theorem in47 {w : World} {d : Nat} {x : Hs} (h : Blk w d 36 (U x)) (hx : x.length = 32) : In w (some ⟨d, 0, none⟩) 32 32 x := by
  refine ⟨hx, Nat.le_refl _, by omega, (fun e => by cases e), fun _ => ⟨d, 0, rfl, h.lt, fun i c hc => ?_⟩⟩
  rw [Nat.zero_add]
  refine h.cell ?_
  have hlt := (List.getElem?_eq_some_iff.1 hc).1
  rw [U_get x i hlt]
  rw [List.getElem?_eq_getElem hlt] at hc
  cases hc
  rfl
set_option maxHeartbeats 4000000 in
theorem patchW_is {B : Nat} {w : World} {g : Nat} (p : PV) (h : Wr B w g (.slice p.da p.dn p.dc) []) (hp : ∀ V, Below B w V → PR V p) (hc : chk p = 0) (R : List UInt8) (hR : ptB p = R) :
    Calls Tryd.prog 12 #[.pointer (some ⟨g, 0, none⟩), .agg p.cells.toArray] w (WrP B g (.slice p.da p.dn p.dc) R w) := by
  obtain ⟨hh, hdd, hoo⟩ := chk_of hc
  obtain ⟨s1, s2, s3, s4, _⟩ := head_of hh
  obtain ⟨s5, _⟩ := deps_of hdd
  obtain ⟨s6, s7, s8, s9⟩ := ops_of hoo
  have hpr := hp w (Below.refl _ _)
  obtain ⟨tm, htm⟩ : ∃ t : Nat, p.tm = (t : Int) := ⟨p.tm.toNat, by omega⟩
  obtain ⟨dv, hdv⟩ : ∃ v, Value.slice p.da p.dn p.dc = v := ⟨_, rfl⟩
  obtain ⟨E1, hE1⟩ : ∃ E, encT p.au = E := ⟨_, rfl⟩
  obtain ⟨E2, hE2⟩ : ∃ E, enc tm = E := ⟨_, rfl⟩
  obtain ⟨E3, hE3⟩ : ∃ E, encT p.nt = E := ⟨_, rfl⟩
  obtain ⟨E4, hE4⟩ : ∃ E, enc p.dn = E := ⟨_, rfl⟩
  obtain ⟨E5, hE5⟩ : ∃ E, enc p.on = E := ⟨_, rfl⟩
  have HP : Hid ((∀ V, Below B w V → PR V p) ∧ p.dn ≤ 16 ∧ p.on ≤ 16 ∧ (∀ o ∈ p.O, opB p.D o = true ∧ o.ln ≤ 64) ∧ p.au.size ≤ 16 ∧ tm ≤ 1099511627776 ∧ p.nt.size ≤ 200) := ⟨hp, by rw [← hpr.deps.1]; exact s5, by rw [← hpr.ops.1]; exact s7, fun o ho => ⟨s9 o ho, by have := many_mem ho; omega⟩, s1, by omega, s4⟩
  have HE : Hid (encT p.au = E1 ∧ enc tm = E2 ∧ encT p.nt = E3 ∧ enc p.dn = E4 ∧ enc p.on = E5) := ⟨hE1, hE2, hE3, hE4, hE5⟩
  have HL : Hid (E1.length ≤ 30 ∧ E2.length ≤ 10 ∧ E3.length ≤ 210 ∧ E4.length ≤ 10 ∧ E5.length ≤ 10) := ⟨by rw [← hE1]; have := encT_len p.au (by omega); omega, by rw [← hE2]; exact enc_ten _ (by omega), by rw [← hE3]; have := encT_len p.nt (by omega); omega, by rw [← hE4]; exact enc_ten _ (by have := hpr.zd; omega), by rw [← hE5]; exact enc_ten _ (by have := hpr.zo; omega)⟩
  have HR : Hid (80 :: (E1 ++ (E2 ++ (E3 ++ (E4 ++ (p.D.flatMap id ++ (E5 ++ p.O.flatMap (encO p.D))))))) = R) := by
    show _ = R
    rw [← hR]
    unfold ptB
    rw [htm, Int.toNat_natCast, hE1, hE2, hE3, hE4, hE5]
  have qdn : (p.dn : Int) ≤ 16 := by have := HP.out.2.1; omega
  have qon : (p.on : Int) ≤ 16 := by have := HP.out.2.2.1; omega
  obtain ⟨d, hd⟩ : ∃ d, w.heap.size = d := ⟨_, rfl⟩
  obtain ⟨W, hW⟩ : ∃ W, w.alloc (.cells p.cells.toArray 25) = W := ⟨_, rfl⟩
  have hbw : Below w.heap.size w W := by rw [← hW]; exact below_al _ _
  have hk : Blk W d 25 p.cells := by rw [← hW, ← hd]; exact Blk.new w _ _
  rw [hdv] at h ⊢
  have HDV : Hid (Value.slice p.da p.dn p.dc = dv) := hdv
  have H0 : Hid (Fr B w W ∧ Blk W d 25 p.cells ∧ Wr B W g dv []) := ⟨Fr.of_below hbw h.lt.2, hk, h.below hbw⟩
  obtain ⟨Z, hZ, HZ⟩ := zero47
  obtain ⟨Z5, hZ5, HZ5⟩ := zero51
  have HZL : Hid (Z.length = 32 ∧ Z5.length = 69) := ⟨by rw [HZ.out]; rfl, by rw [HZ5.out]; exact OpV.len o00_ok⟩
  obtain ⟨i0, hi⟩ := i5
  have HI5 : Hid (Tryd.prog.info? 5 = some i0 ∧ i0.zero = some (.int .u8 0) ∧ i0.size = 1 ∧ i0.bytes = 1) := hi
  clear hE1 hE2 hE3 hE4 hE5 hh hdd hoo s1 s2 s3 s4 s5 s6 s7 s8 s9 hpr h hp hc hR hbw hk hdv HZ HZ5 hi
  go_enter Tryd.func12, Tryd.ntmps12
  go_wp2_with fail
  refine (mark_is H0.out.2.2 80 (by simp)).mono ?_
  rintro e W1 ⟨⟨rv1, rfl⟩, hw1, hf1⟩
  have H1 : Hid (Fr B w W1 ∧ Blk W1 d 25 p.cells ∧ Wr B W1 g dv ([] ++ [80])) := ⟨H0.out.1.trans hf1, H0.out.2.1.fr hf1 (by decide) (by decide), hw1⟩
  have c0 : W1.cell? ⟨d, 0, none⟩ = some (.string p.au) := H1.out.2.1.cell rfl
  clear hw1 hf1 hW hd H0
  go_wp2_with fail
  refine (text_is H1.out.2.2 p.au (by simp) (by have := HP.out.2.2.2.2.1; omega)).mono ?_
  rintro e W2 ⟨⟨rv2, rfl⟩, hw2, hf2⟩
  rw [HE.out.1] at hw2
  have H2 : Hid (Fr B w W2 ∧ Blk W2 d 25 p.cells ∧ Wr B W2 g dv ([] ++ [80] ++ E1)) := ⟨H1.out.1.trans hf2, H1.out.2.1.fr hf2 (by decide) (by decide), hw2⟩
  have c1 : W2.cell? ⟨d, 1, none⟩ = some (iv (tm : Int)) := by rw [← htm]; exact H2.out.2.1.cell rfl
  clear hw2 hf2 c0 H1
  go_wp2_with fail
  refine (number_w H2.out.2.2 tm (by simp only [List.length_append]; have := HL.out; simp; omega) (by have := HP.out.2.2.2.2.2.1; omega)).mono ?_
  rintro e W3 ⟨⟨rv3, rfl⟩, hw3, hf3⟩
  rw [HE.out.2.1] at hw3
  have H3 : Hid (Fr B w W3 ∧ Blk W3 d 25 p.cells ∧ Wr B W3 g dv ([] ++ [80] ++ E1 ++ E2)) := ⟨H2.out.1.trans hf3, H2.out.2.1.fr hf3 (by decide) (by decide), hw3⟩
  have c2 : W3.cell? ⟨d, 2, none⟩ = some (.string p.nt) := H3.out.2.1.cell rfl
  clear hw3 hf3 c1 H2
  go_wp2_with fail
  refine (text_is H3.out.2.2 p.nt (by simp only [List.length_append]; have := HL.out; simp; omega) (by have := HP.out.2.2.2.2.2.2; omega)).mono ?_
  rintro e W4 ⟨⟨rv4, rfl⟩, hw4, hf4⟩
  rw [HE.out.2.2.1] at hw4
  have H4 : Hid (Fr B w W4 ∧ Blk W4 d 25 p.cells ∧ Wr B W4 g dv ([] ++ [80] ++ E1 ++ E2 ++ E3)) := ⟨H3.out.1.trans hf4, H3.out.2.1.fr hf4 (by decide) (by decide), hw4⟩
  have c3 : W4.cell? ⟨d, 3, none⟩ = some (.slice p.da p.dn p.dc) := H4.out.2.1.cell rfl
  clear hw4 hf4 c2 H3
  go_wp2_with fail
  refine (number_w H4.out.2.2 p.dn (by simp only [List.length_append]; have := HL.out; simp; omega) (by have := HP.out.2.1; omega)).mono ?_
  rintro e W5 ⟨⟨rv5, rfl⟩, hw5, hf5⟩
  rw [HE.out.2.2.2.1] at hw5
  obtain ⟨M5, hM5⟩ : ∃ M, [] ++ [80] ++ E1 ++ E2 ++ E3 ++ E4 = M := ⟨_, rfl⟩
  rw [hM5] at hw5
  have H5 : Hid (Fr B w W5 ∧ Blk W5 d 25 p.cells ∧ Wr B W5 g dv M5) := ⟨H4.out.1.trans hf5, H4.out.2.1.fr hf5 (by decide) (by decide), hw5⟩
  have HM5 : Hid ([] ++ [80] ++ E1 ++ E2 ++ E3 ++ E4 = M5 ∧ M5.length ≤ 300) := ⟨hM5, by rw [← hM5]; simp only [List.length_append]; have := HL.out; simp; omega⟩
  clear hw5 hf5 c3 H4 hM5
  have c3 : W5.cell? ⟨d, 3, none⟩ = some (.slice p.da p.dn p.dc) := H5.out.2.1.cell rfl
  go_wp2_with fail
  go_loopw [30] (fun u wr => ∃ i : Nat, u = iv (i : Int) ∧ (i : Int) ≤ (p.dn : Int) ∧ Hid (Wr B wr g dv (M5 ++ (p.D.take i).flatMap id) ∧ Fr B w wr ∧ Blk wr d 25 p.cells)) (fun u _ => p.dn - (intOf u).toNat)
  case atStart => exact ⟨0, rfl, by omega, by simpa using H5.out.2.2, H5.out.1, H5.out.2.1⟩
  case round =>
    obtain ⟨V, hV⟩ : ∃ V, V = wr := ⟨_, rfl⟩
    subst hV
    obtain ⟨i, rfl, qi, HI⟩ := hrel
    clear c3 H5
    by_cases hi : i < p.dn
    · have hds := (HP.out.1 V HI.out.2.1.below).deps
      obtain ⟨x, hx⟩ : ∃ x, p.D[i]? = some x := ⟨_, List.getElem?_eq_getElem (by rw [hds.1]; exact hi)⟩
      obtain ⟨gg, off, hda, hg, hel⟩ := hds.2.2 (by omega)
      have hxl := hds.2.1 x (List.mem_of_getElem? hx)
      have hfl := flat_take id p.D i x hx
      have hfb := flat_len id 32 (p.D.take i) (fun t ht => by have := hds.2.1 t (List.mem_of_mem_take ht); simp only [id]; omega)
      have htl : (p.D.take i).length ≤ 16 := by rw [List.length_take]; have := HP.out.2.1; omega
      have HX : Hid (i < p.dn ∧ x.length = 32 ∧ (p.D.take (i + 1)).flatMap id = (p.D.take i).flatMap id ++ x ∧ ((p.D.take i).flatMap id).length ≤ 512 ∧ V.rangeAt gg (off + i * 32) (U x)) := ⟨hi, hxl, hfl, by have : 32 * (p.D.take i).length ≤ 32 * 16 := Nat.mul_le_mul_left _ htl; omega, hel i x hx⟩
      have q1 : (i : Int) < (p.dn : Int) := by omega
      obtain ⟨d5, hd5⟩ : ∃ d, V.heap.size = d := ⟨_, rfl⟩
      have HD5 : Hid (V.heap.size = d5) := hd5
      clear hds hg hel hx hxl hfl hfb htl hi qi
      rw [hda]
      go_wp2_with (with_reducible change wpList _ _ _ ({ dst := some 33, op := _, type := _, pos := _, after := _, guard := _ } :: _) _ _; refine Hid.out ?_)
      show wpList _ _ _ _ _ _
      refine wpList_load_mid rfl 36 (.tmp 32) rfl gg (off + i * 32) rfl (U x) _ HX.out.2.2.2.2 Tryd.underlying36 rfl (info47 x HX.out.2.1) ?_
      go_wp2_with (with_reducible change wpList _ _ _ ({ dst := none, op := Op.store 36 _ _, type := _, pos := _, after := _, guard := _ } :: _) _ _; refine Hid.out ?_)
      show wpList _ _ _ _ _ _
      refine wpList_store_blk rfl 36 (.tmp 5) (.tmp 33) rfl d5 0 36 Z (U x) rfl rfl (by rw [← HD5.out]; exact Blk.new V _ _) (by rw [HZL.out.1, U_length, HX.out.2.1]; omega) (info47 x HX.out.2.1) (U_one x) ?_
      intro V1 hx1 hg1
      have hbV : Below V.heap.size V V1 := below_gr (below_al V _) hg1.out (by rw [HD5.out]; exact Nat.le_refl _)
      have hwV := HI.out.1.below hbV
      obtain ⟨va, n, cp, hb, ho⟩ := hwV.own
      have hk5 : Blk V1 d5 36 (U x) := blk_all hx1.out (by rw [HZL.out.1, U_length, HX.out.2.1])
      have H6 : Hid (Fr B w V1 ∧ Blk V1 d 25 p.cells) := ⟨HI.out.2.1.trans (Fr.of_below hbV HI.out.1.lt.2), HI.out.2.2.below hbV HI.out.2.2.lt⟩
      have HX5 : Hid (B ≤ g ∧ B ≤ V1.heap.size ∧ (M5 ++ (p.D.take i).flatMap id).length + 32 ≤ 140737488355328) := ⟨hwV.lo, hwV.lt.2, by rw [List.length_append]; have := HM5.out.2; have := HX.out.2.2.2.1; omega⟩
      have HG5 : Hid (Blk V1 g 48 [.slice va n cp, dv] ∧ Own 5 B V1 (.slice va n cp) (M5 ++ (p.D.take i).flatMap id)) := ⟨hb, ho⟩
      have HT5 : Hid (In V1 (some ⟨d5, 0, none⟩) 32 32 x) := in47 hk5 HX.out.2.1
      clear hx1 hg1 hbV hwV hb ho hk5 hd5
      go_wp2_with fail
      refine pw9 HI5 HX5 HG5 HT5 ?_
      intro V2 va2 n2 c2 hw7 hf7
      have H7 : Hid (Wr B V2 g dv (M5 ++ (p.D.take (i + 1)).flatMap id) ∧ Fr B w V2 ∧ Blk V2 d 25 p.cells ∧ i < p.dn) := ⟨by rw [HX.out.2.2.1, ← List.append_assoc]; exact hw7, H6.out.1.trans hf7, H6.out.2.fr hf7 (by decide) (by decide), HX.out.1⟩
      clear hw7 hf7 HX5 HG5 HT5 H6
      go_wp2
      go_roundw
      case rel => exact ⟨i + 1, by simp, by have := H7.out.2.2.2; omega, H7.out.1, H7.out.2.1, H7.out.2.2.1⟩
      case measure => have := H7.out.2.2.2; simp only [intOf]; omega
    · have q1 : (p.dn : Int) ≤ (i : Int) := by omega
      have hDl := (HP.out.1 w (Below.refl _ _)).deps.1
      have hw8 := HI.out.1
      rw [List.take_of_length_le (by omega)] at hw8
      have hfb := flat_len id 32 p.D (fun t ht => by have := (HP.out.1 w (Below.refl _ _)).deps.2.1 t ht; simp only [id]; omega)
      obtain ⟨M6, hM6⟩ : ∃ M, M5 ++ p.D.flatMap id = M := ⟨_, rfl⟩
      rw [hM6] at hw8
      have H8 : Hid (Wr B V g dv M6 ∧ Fr B w V ∧ Blk V d 25 p.cells) := ⟨hw8, HI.out.2⟩
      have HM6 : Hid (M5 ++ p.D.flatMap id = M6 ∧ M6.length ≤ 900) := ⟨hM6, by rw [← hM6, List.length_append]; have := HM5.out.2; have := HP.out.2.1; omega⟩
      have c4 : V.cell? ⟨d, 4, none⟩ = some (.slice p.oa p.on p.oc) := H8.out.2.2.cell rfl
      clear hDl hw8 hfb hM6 HI hi
      go_wp2_with fail
      refine (number_w H8.out.1 p.on (by have := HM6.out.2; omega) (by have := HP.out.2.2.1; omega)).mono ?_
      rintro e W9 ⟨⟨rv9, rfl⟩, hw9, hf9⟩
      rw [HE.out.2.2.2.2] at hw9
      obtain ⟨M7, hM7⟩ : ∃ M, M6 ++ E5 = M := ⟨_, rfl⟩
      rw [hM7] at hw9
      have H9 : Hid (Fr B w W9 ∧ Blk W9 d 25 p.cells ∧ Wr B W9 g dv M7) := ⟨H8.out.2.1.trans hf9, H8.out.2.2.fr hf9 (by decide) (by decide), hw9⟩
      have HM7 : Hid (M6 ++ E5 = M7 ∧ M7.length ≤ 1000) := ⟨hM7, by rw [← hM7, List.length_append]; have := HM6.out.2; have := HL.out; omega⟩
      clear hw9 hf9 c4 H8 hM7
      have c4 : W9.cell? ⟨d, 4, none⟩ = some (.slice p.oa p.on p.oc) := H9.out.2.1.cell rfl
      go_wp2_with fail
      go_loopw [52] (fun u wr => ∃ i : Nat, u = iv (i : Int) ∧ (i : Int) ≤ (p.on : Int) ∧ Hid (Wr B wr g dv (M7 ++ (p.O.take i).flatMap (encO p.D)) ∧ Fr B w wr)) (fun u _ => p.on - (intOf u).toNat)
      case atStart => exact ⟨0, rfl, by omega, by simpa using H9.out.2.2, H9.out.1⟩
      case round =>
        obtain ⟨V3, hV3⟩ : ∃ V, V = wr := ⟨_, rfl⟩
        subst hV3
        obtain ⟨j, rfl, qj, HI⟩ := hrel
        clear c4 H9
        by_cases hj : j < p.on
        · have hos := (HP.out.1 V3 HI.out.2.below).ops
          obtain ⟨x, hx⟩ : ∃ x, p.O[j]? = some x := ⟨_, List.getElem?_eq_getElem (by rw [hos.1]; exact hj)⟩
          obtain ⟨gg, off, hoa, hg, hel⟩ := hos.2.2 (by omega)
          have hxo := hos.2.1 x (List.mem_of_getElem? hx)
          have hxb := HP.out.2.2.2.1 x (List.mem_of_getElem? hx)
          have hDl : p.D.length ≤ 16 := by rw [(HP.out.1 w (Below.refl _ _)).deps.1]; exact HP.out.2.1
          have hfl := flat_take (encO p.D) p.O j x hx
          have hfb := flat_len (encO p.D) 14000 (p.O.take j) (fun t ht => by
            have hm := List.mem_of_mem_take ht
            have h1 := HP.out.2.2.2.1 t hm
            exact encO_len p.D t (by omega) h1.1 (hos.2.1 t hm).1.2.2.1 h1.2)
          have htl : (p.O.take j).length ≤ 16 := by rw [List.length_take]; have := HP.out.2.2.1; omega
          have HX : Hid (j < p.on ∧ x.ok ∧ (p.O.take (j + 1)).flatMap (encO p.D) = (p.O.take j).flatMap (encO p.D) ++ encO p.D x ∧ ((p.O.take j).flatMap (encO p.D)).length ≤ 224000 ∧ V3.rangeAt gg (off + j * 69) x.cells ∧ opB p.D x = true ∧ x.ln ≤ 64 ∧ x ∈ p.O) := ⟨hj, hxo.1, hfl, by have : 14000 * (p.O.take j).length ≤ 14000 * 16 := Nat.mul_le_mul_left _ htl; omega, hel j x hx, hxb.1, hxb.2, List.mem_of_getElem? hx⟩
          have q2 : (j : Int) < (p.on : Int) := by omega
          obtain ⟨d7, hd7⟩ : ∃ d, V3.heap.size = d := ⟨_, rfl⟩
          have HD7 : Hid (V3.heap.size = d7) := hd7
          clear hos hg hel hx hxo hxb hDl hfl hfb htl hj qj
          rw [hoa]
          go_wp2_with (with_reducible change wpList _ _ _ ({ dst := some 55, op := _, type := _, pos := _, after := _, guard := _ } :: _) _ _; refine Hid.out ?_)
          show wpList _ _ _ _ _ _
          refine wpList_load_mid rfl 45 (.tmp 54) rfl gg (off + j * 69) rfl x.cells _ HX.out.2.2.2.2.1 Tryd.underlying45 rfl (info51 HX.out.2.1) ?_
          go_wp2_with (with_reducible change wpList _ _ _ ({ dst := none, op := Op.store 45 _ _, type := _, pos := _, after := _, guard := _ } :: _) _ _; refine Hid.out ?_)
          show wpList _ _ _ _ _ _
          refine wpList_store_blk rfl 45 (.tmp 7) (.tmp 55) rfl d7 0 45 Z5 x.cells rfl rfl (by rw [← HD7.out]; exact Blk.new V3 _ _) (by rw [HZL.out.2, OpV.len HX.out.2.1]; omega) (info51 HX.out.2.1) x.one ?_
          intro V4 hx4 hg4
          have hbV : Below V3.heap.size V3 V4 := below_gr (below_al V3 _) hg4.out (by rw [HD7.out]; exact Nat.le_refl _)
          have H6 : Hid (Fr B w V4 ∧ Wr B V4 g dv (M7 ++ (p.O.take j).flatMap (encO p.D)) ∧ OpB V4 d7 x) := ⟨HI.out.2.trans (Fr.of_below hbV HI.out.1.lt.2), HI.out.1.below hbV, ⟨blk_all hx4.out (by rw [HZL.out.2, OpV.len HX.out.2.1]), HX.out.2.1⟩⟩
          have hwx := H6.out.2.1
          rw [← HDV.out] at hwx
          have HWX : Hid (Wr B V4 g (.slice p.da p.dn p.dc) (M7 ++ (p.O.take j).flatMap (encO p.D))) := hwx
          clear hx4 hg4 hbV hd7 hwx
          go_wp2_with (with_reducible change wpList _ _ _ ({ dst := some 57, op := _, type := _, pos := _, after := _, guard := _ } :: _) _ _; refine Hid.out ?_)
          show wpList _ _ _ _ _ _
          refine wpList_load_mid rfl 45 (.tmp 7) rfl d7 0 rfl x.cells _ H6.out.2.2.blk.range0 Tryd.underlying45 rfl (info51 HX.out.2.1) ?_
          go_wp2_with fail
          refine (opW_is HWX.out p.D (fun V5 hV5 => (HP.out.1 V5 (H6.out.1.below.trans hV5)).deps) (by have := HP.out.2.1; omega) x HX.out.2.1 (fun V5 hV5 => ((HP.out.1 V5 (H6.out.1.below.trans hV5)).ops.2.1 x HX.out.2.2.2.2.2.2.2).2) HX.out.2.2.2.2.2.1 HX.out.2.2.2.2.2.2.1 (by rw [List.length_append]; have := HM7.out.2; have := HX.out.2.2.2.1; omega) _ rfl).mono ?_
          rintro e V5 ⟨⟨rv7, rfl⟩, hw7, hf7⟩
          rw [HDV.out] at hw7
          have H7 : Hid (Wr B V5 g dv (M7 ++ (p.O.take (j + 1)).flatMap (encO p.D)) ∧ Fr B w V5 ∧ j < p.on) := ⟨by rw [HX.out.2.2.1, ← List.append_assoc]; exact hw7, H6.out.1.trans hf7, HX.out.1⟩
          clear hw7 hf7 HWX H6
          go_wp2
          go_roundw
          case rel => exact ⟨j + 1, by simp, by have := H7.out.2.2; omega, H7.out.1, H7.out.2.1⟩
          case measure => have := H7.out.2.2; simp only [intOf]; omega
        · have q2 : (p.on : Int) ≤ (j : Int) := by omega
          have HF : Hid (Wr B V3 g dv R ∧ Fr B w V3) := by
            refine ⟨?_, HI.out.2⟩
            have h1 := HI.out.1
            have hOl := (HP.out.1 w (Below.refl _ _)).ops.1
            rw [List.take_of_length_le (by omega)] at h1
            have e1 : M7 ++ p.O.flatMap (encO p.D) = R := by
              rw [← HR.out, ← HM7.out.1, ← HM6.out.1, ← HM5.out.1]
              simp only [List.append_assoc, List.cons_append, List.nil_append]
            rw [← e1]
            exact h1
          clear hj
          go_wp2
          go_end0
          exact ⟨⟨_, rfl⟩, HF.out.1, HF.out.2⟩
end Go.Proofs.YtgdecjacbkicmaaDoor.Oct
