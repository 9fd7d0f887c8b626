/-
  Layer 11 (lines): hashes and vertices.
-/
import Derived.Test.YtjcihaohpbmogaaRows
import Derived.Test.YtjcihaohpbmogaaQpAA
import Derived.WalkLawsBesides
import Derived.Deep.RegionHeld
import Derived.Deep.MidRow
import Derived.ChangeKeysEq
import Derived.Laws.StructEq
/- Layer 11 (lines): hashes and vertices. -/
namespace Go.Proofs.Ytjcihaohpbmogaa.Oct
open Go.RowKit
set_option maxRecDepth 100000
set_option linter.unusedSimpArgs false
set_option linter.unusedVariables false

def U (l : List UInt8) : List Value := l.map fun c => .int .u8 (c.toNat : Int)
def hv (h : List UInt8) : Value := .agg (U h).toArray
theorem U_length (l : List UInt8) : (U l).length = l.length := by simp [U]
theorem U_get (l : List UInt8) (i : Nat) (h : i < l.length) : (U l)[i]? = some (.int .u8 (l[i].toNat : Int)) := by simp [U, h]
theorem U_one (l : List UInt8) : ∀ v ∈ U l, v.oneCell' = true := by
  intro v hv
  obtain ⟨c, _, rfl⟩ := List.mem_map.1 hv
  rfl
theorem U_inj : ∀ {a b : List UInt8}, U a = U b → a = b
  | [], [], _ => rfl
  | [], _ :: _, h => by simp [U] at h
  | _ :: _, [], h => by simp [U] at h
  | x :: a, y :: b, h => by
    simp only [U, List.map_cons, List.cons.injEq] at h
    have e : (x.toNat : Int) = y.toNat := by simpa using h.1
    rw [UInt8.toNat_inj.1 (by omega : x.toNat = y.toNat), U_inj (show U a = U b from h.2)]
abbrev iv (n : Int) : Value := .int .i64 n
abbrev bv (n : Int) : Value := .int .u8 n
abbrev BA := ByteArray
abbrev e0 : BA := ⟨#[]⟩
theorem toList_d (s : BA) : s.toList = s.data.toList := ByteArray.toList_eq s
theorem ba_ext {s t : BA} (h : s.data.toList = t.data.toList) : s = t := by
  have : s.data = t.data := Array.toList_inj.1 h
  cases s; cases t; simpa using this
theorem below_al (w : World) (o : Obj) : Below w.heap.size w (w.alloc o) := (Below.refl _ w).alloc (Nat.le_refl _) o
theorem below_tr {w w1 w2 : World} (h : Below w.heap.size w w1) (k : Below w1.heap.size w1 w2) : Below w.heap.size w w2 := h.trans (k.mono h.size)
theorem below_drew0 (A : World) : Below A.heap.size A A.drew := ⟨rfl, rfl, rfl, Nat.le_refl _, fun _ _ => rfl⟩
theorem below_gr {w w1 w2 : World} {g : Nat} (h : Below w.heap.size w w1) (k : w1.grownBy w2 (some g)) (hg : w.heap.size ≤ g) : Below w.heap.size w w2 :=
  h.grown k h.size (fun j hj => by cases hj; exact hg)
theorem gr_of {w w' : World} {r : Option Nat} (h : Below w.heap.size w w') : w.grownBy w' r := ⟨h.os, h.tape, h.output, h.size, fun k hk _ => h.block k hk⟩
theorem blk_all {w : World} {b : Nat} {t : TypeId} {L cs : List Value} (h : Blk w b t (L.take 0 ++ cs ++ L.drop (0 + cs.length))) (hl : L.length = cs.length) : Blk w b t cs := by
  have e : L.take 0 ++ cs ++ L.drop (0 + cs.length) = cs := by rw [Nat.zero_add, ← hl, List.drop_length]; simp
  rw [e] at h
  exact h
/-- a hash: its bytes -/
abbrev Hs := List UInt8
theorem hv_inj {a b : Hs} (h : hv a = hv b) : a = b := U_inj (by simpa [hv] using h)
theorem part5 (xs : Array Value) (i : Nat) (v : Value) (h : xs[i]? = some v) (W : World) : (part 5 xs i).run Try.prog W = .ok v W := by
  simp [part, isAgg, run_underlying Try.underlying5, h]
/-- a list of hashes that can be read -/
def HsR (w : World) (a : Option Addr) (n : Nat) (hs : List Hs) : Prop :=
  hs.length = n ∧ (∀ h ∈ hs, h.length = 32) ∧ (0 < n → ∃ g off, a = some ⟨g, off, none⟩ ∧ g < w.heap.size ∧ ∀ i h, hs[i]? = some h → w.rangeAt g (off + i * 32) (U h))
theorem rangeAt_same {w w' : World} {g o : Nat} {cs : List Value} (h : w.rangeAt g o cs) (hs : w'.heap[g]? = w.heap[g]?) : w'.rangeAt g o cs := by
  intro j v hj
  rw [← h j v hj]
  simp only [World.cell?, hs]
theorem HsR.same {w w' : World} {a : Option Addr} {n : Nat} {hs : List Hs} (h : HsR w a n hs) (hsz : w.heap.size ≤ w'.heap.size) (hk : ∀ g off, a = some ⟨g, off, none⟩ → w'.heap[g]? = w.heap[g]?) : HsR w' a n hs := by
  refine ⟨h.1, h.2.1, fun hp => ?_⟩
  obtain ⟨g, off, e, h1, h2⟩ := h.2.2 hp
  exact ⟨g, off, e, by omega, fun i x hx => rangeAt_same (h2 i x hx) (hk g off e)⟩
theorem HsR.below {w w' : World} {a : Option Addr} {n : Nat} {hs : List Hs} (h : HsR w a n hs) (hb : Below w.heap.size w w') : HsR w' a n hs := by
  refine ⟨h.1, h.2.1, fun hp => ?_⟩
  obtain ⟨g, off, e, h1, h2⟩ := h.2.2 hp
  exact ⟨g, off, e, Nat.lt_of_lt_of_le h1 hb.size, fun i x hx => rangeAt_same (h2 i x hx) (hb.block g h1)⟩
theorem HsR.nil (w : World) (a : Option Addr) : HsR w a 0 [] := ⟨rfl, by simp, fun h => absurd h (by omega)⟩
theorem info32 : ∀ (h : Hs), h.length = 32 → (Try.prog.info? 32).map (·.size) = some (U h).length := by
  intro h hl; rw [U_length, hl]; kernel_rfl

theorem wpList_built {P : Program} {ops : Array Oper} {rest : List Oper} {o : Oper} {a : Act} {w : World} {Q : Exit → Act → World → Prop} (hg : o.guard = none) (t : TypeId) (parts : Array (Nat × Operand)) (ho : o.op = .build t parts)
    (cells : Array Value) (hb : P.built t (parts.map fun (i, x) => (i, a.eval x)).toList = some cells) (h : wpList P ops Q rest (a.put o.dst (.agg cells)) w) : wpList P ops Q (o :: rest) a w := by
  refine wpList_build hg t parts ho (by rw [hb]; rfl) ?_
  rw [hb]
  exact h

theorem wpList_built_want {P : Program} {ops : Array Oper} {rest : List Oper} {o : Oper} {a : Act} {w : World} {Q : Exit → Act → World → Prop} (hw : Region.wanted o (yielded ops a.tmps) = true) (t : TypeId) (parts : Array (Nat × Operand)) (ho : o.op = .build t parts)
    (cells : Array Value) (hb : P.built t (parts.map fun (i, x) => (i, a.eval x)).toList = some cells) (h : wpList P ops Q rest (a.put o.dst (.agg cells)) w) : wpList P ops Q (o :: rest) a w := by
  refine Go.BigFrame.wpList_want hw fun _ hK => wp_build t parts ho (by rw [hb]; rfl) (hK _ _ ?_)
  rw [hb]
  exact h
theorem Blk.range0 {w : World} {b : Nat} {t : TypeId} {L : List Value} (h : Blk w b t L) : w.rangeAt b 0 L := fun j v hj => by rw [Nat.zero_add]; exact h.cell hj
theorem ret_c {R : Ending → World → Prop} {fn : Func} {pt : Tmp} {ty : TypeId} {a : Act} {w : World} {g : Nat} {X : List Value} {d : TypeDesc} (hr : fn.results = #[.cell pt ty]) (hd : a.defers = []) (hp : a.tmps.getD pt undef = .pointer (some ⟨g, 0, none⟩))
    (hb : Blk w g ty X) (hu : Try.prog.underlying ty = some d) (hrow : d.isRow = true) (hi : (Try.prog.info? ty).map (·.size) = some X.length) (hR : R (.returned (.agg X.toArray)) w) : bodyPost Try.prog fn R .ret a w := by
  have hl := run_loadVar_mid (P := Try.prog) w g 0 ty X _ hb.range0 hu hrow hi
  refine bodyPost_ret (v := .agg X.toArray) ?_ hd hR
  simp only [results, hr]
  simp [Sem.run_bind, Array.getD] at hp ⊢
  simp [hp, asAddr, hl, Result.andThen]
theorem ret_cu {R : Ending → World → Prop} {fn : Func} {pt u : Tmp} {ty : TypeId} {a : Act} {w : World} {g : Nat} {X : List Value} {d : TypeDesc} (hr : fn.results = #[.cell pt ty, .tmp u]) (hd : a.defers = []) (hp : a.tmps.getD pt undef = .pointer (some ⟨g, 0, none⟩))
    (hb : Blk w g ty X) (hu : Try.prog.underlying ty = some d) (hrow : d.isRow = true) (hi : (Try.prog.info? ty).map (·.size) = some X.length) (hR : R (.returned (.tuple #[.agg X.toArray, a.tmps.getD u undef])) w) : bodyPost Try.prog fn R .ret a w := by
  have hl := run_loadVar_mid (P := Try.prog) w g 0 ty X _ hb.range0 hu hrow hi
  refine bodyPost_ret (v := .tuple #[.agg X.toArray, a.tmps.getD u undef]) ?_ hd hR
  rw [results_cell_tmp hr, hp]
  simp [asAddr, hl, Result.andThen]
theorem wpList_load_want {ops : Array Oper} {rest : List Oper} {o : Oper} {a : Act} {w : World} {Q : Exit → Act → World → Prop} (hw : Region.wanted o (yielded ops a.tmps) = true) (ty : TypeId) (x : Operand) (ho : o.op = .load ty x)
    (b p : Nat) (hx : a.eval x = .pointer (some ⟨b, p, none⟩)) (cs : List Value) (d : TypeDesc) (hc : w.rangeAt b p cs)
    (hu : Try.prog.underlying ty = some d) (hd : d.isRow = true) (hi : (Try.prog.info? ty).map (·.size) = some cs.length)
    (h : wpList Try.prog ops Q rest (a.put o.dst (.agg cs.toArray)) w) : wpList Try.prog ops Q (o :: rest) a w :=
  Go.BigFrame.wpList_want hw fun _ hK => wp_load_mid ty x ho b p hx cs d hc hu hd hi (hK _ _ h)
/-- what is looked at of fields -/
def eqT (d : Nat) (xs ys : Array Value) : List (String × TypeId × Nat) → Sem Bool
  | [] => pure true
  | f :: fs =>
    if f.1 ≠ "_" then do
      let a ← part f.2.1 xs f.2.2
      let b ← part f.2.1 ys f.2.2
      let r ← Op.equalIn d f.2.1 a b
      if (!r) = true then pure false else eqT d xs ys fs
    else eqT d xs ys fs
theorem eqT_is (d : Nat) (xs ys : Array Value) : ∀ fs : List Field, Op.eqFields d xs ys fs = eqT d xs ys (fs.map fun f => (f.name, f.type, f.offset))
  | [] => rfl
  | f :: fs => by
    simp only [Op.eqFields, eqT, List.map_cons, eqT_is d xs ys fs]
theorem part3 (t : TypeId) (d : TypeDesc) (hu : Try.prog.underlying t = some d) (hd : d.isRow = false) (xs : Array Value) (i : Nat) (v : Value) (h : xs[i]? = some v) (W : World) : (part t xs i).run Try.prog W = .ok v W := by
  have : (isAgg t).run Try.prog W = .ok false W := by
    simp [isAgg, run_underlying hu]
    cases d <;> first | rfl | cases hd
  simp [part, this, h]
theorem eqT_cons {P : Program} {W : World} {d : Nat} {xs ys : Array Value} {nm : String} {t : TypeId} {o : Nat} {a b : Value} {B C : Bool} {fs : List (String × TypeId × Nat)} (hn : nm ≠ "_") (ha : (part t xs o).run P W = .ok a W) (hb : (part t ys o).run P W = .ok b W) (hq : (Op.equalIn d t a b).run P W = .ok B W) (hr : (eqT d xs ys fs).run P W = .ok C W) :
    (eqT d xs ys ((nm, t, o) :: fs)).run P W = .ok (B && C) W := by
  unfold eqT
  rw [if_pos hn]
  simp only [Sem.run_bind, ha, hb, hq, Result.andThen_ok]
  cases B
  · rfl
  · simpa using hr
theorem eqItemsk (k : Nat) (a b : List UInt8) (ha : a.length = 32) (hb : b.length = 32) (W : World) : ∀ is : List Nat, (∀ i ∈ is, i < 32) → (Op.eqItems (k + 1) 5 1 (U a).toArray (U b).toArray is).run Try.prog W = .ok (is.all fun i => a[i]? == b[i]?) W
  | [], _ => by simp [Op.eqItems]
  | i :: is, h => by
    have hi : i < 32 := h i (by simp)
    have hia : i < a.length := by omega
    have hib : i < b.length := by omega
    have hp := part5 (U a).toArray i _ (by rw [List.getElem?_toArray]; exact U_get a i hia) W
    have hp2 := part5 (U b).toArray i _ (by rw [List.getElem?_toArray]; exact U_get b i hib) W
    have he := run_equalIn_int (P := Try.prog) (w := W) k 5 .u8 .u8 (a[i].toNat : Int) (b[i].toNat : Int) Try.underlying5
    have ih := eqItemsk k a b ha hb W is (fun j hj => h j (by simp [hj]))
    have e1 : (a[i]? == b[i]?) = ((a[i].toNat : Int) == (b[i].toNat : Int)) := by
      rw [List.getElem?_eq_getElem hia, List.getElem?_eq_getElem hib]
      by_cases hc : a[i] = b[i]
      · simp [hc]
      · have : ¬ (a[i].toNat : Int) = b[i].toNat := fun hx => hc (UInt8.toNat_inj.1 (by omega))
        rw [beq_eq_false_iff_ne.2 this]
        simpa using hc
    simp only [Op.eqItems, Sem.run_bind, Nat.mul_one, hp, hp2, Result.andThen_ok, he]
    simp only [List.all_cons, e1]
    cases hc : ((a[i].toNat : Int) == (b[i].toNat : Int)) with
    | true => simpa using ih
    | false => simp
theorem eqHk (k : Nat) (a b : List UInt8) (ha : a.length = 32) (hb : b.length = 32) (W : World) : (Op.equalIn (k + 2) 32 (.agg (U a).toArray) (.agg (U b).toArray)).run Try.prog W = .ok (decide (a = b)) W := by
  obtain ⟨i, hi, -⟩ := Option.map_eq_some_iff.1 (show (Try.prog.info? 5).map (·.size) = some 1 by kernel_rfl)
  rw [run_equalIn_array W (k + 1) (U a).toArray (U b).toArray Try.underlying32 hi, show Try.prog.cellsOf 5 = 1 by kernel_rfl, eqItemsk k a b ha hb W _ (by intro i hi; rw [List.mem_range] at hi; omega)]
  congr 1
  rw [Bool.eq_iff_iff]
  simp only [List.all_eq_true, List.mem_range, beq_iff_eq, decide_eq_true_eq]
  constructor
  · intro h
    apply List.ext_getElem?
    intro i
    by_cases hi : i < 32
    · exact h i hi
    · rw [List.getElem?_eq_none (by omega), List.getElem?_eq_none (by omega)]
  · rintro rfl i _; rfl
/-- a vertex -/
structure Vx where
  h : Hs
  n : Int
def Vx.cells (v : Vx) : List Value := U v.h ++ [iv v.n]
def Vx.ok (v : Vx) : Prop := v.h.length = 32
theorem Vx.len {v : Vx} (h : v.ok) : v.cells.length = 33 := by unfold Vx.cells; rw [List.length_append, U_length, h]; rfl
theorem Vx.one (v : Vx) : ∀ x ∈ v.cells, x.oneCell' = true := by
  intro x hx
  rcases List.mem_append.1 hx with h | h
  · exact U_one _ x h
  · rw [List.mem_singleton.1 h]; rfl
theorem Vx.line {v : Vx} (h : v.ok) : v.cells[32]? = some (iv v.n) := by
  unfold Vx.cells
  rw [List.getElem?_append_right (by rw [U_length, h]; exact Nat.le_refl _), U_length, h]
  rfl
theorem Vx.hash {v : Vx} (h : v.ok) : v.cells.take 32 = U v.h := by
  unfold Vx.cells
  rw [List.take_append_of_le_length (by rw [U_length, h]; exact Nat.le_refl _), List.take_of_length_le (by rw [U_length, h]; exact Nat.le_refl _)]
def z32 : Hs := List.replicate 32 0
def vTop : Vx := ⟨z32, 0⟩
def vBot : Vx := ⟨z32, 1⟩
theorem vTop_ok : vTop.ok := by unfold Vx.ok; rfl
theorem vBot_ok : vBot.ok := by unfold Vx.ok; rfl
theorem info34 {v : Vx} (h : v.ok) : (Try.prog.info? 34).map (·.size) = some v.cells.length := by rw [Vx.len h]; show _ = some 33; kernel_rfl
theorem zero34 : ∃ Z : List Value, (∀ W, (zeroValue 34).run Try.prog W = .ok (.agg Z.toArray) W) ∧ Hid (Z = vTop.cells) := ⟨vTop.cells, fun W => by kernel_rfl, rfl⟩
theorem built34 : Try.prog.built 34 [] = some vTop.cells.toArray := by kernel_rfl
theorem built34b : Try.prog.built 34 [(1, iv 1)] = some vBot.cells.toArray := by kernel_rfl
theorem fields34 : (Try.prog.fieldsOf 34).toList.map (fun f => (f.name, f.type, f.offset)) = [("Patch", 32, 0), ("Line", 3, 32)] := by kernel_rfl
theorem part32 (xs : Array Value) (l : List UInt8) (h : xs.extract 0 32 = (U l).toArray) (W : World) : (part 32 xs 0).run Try.prog W = .ok (.agg (U l).toArray) W := by
  have h1 : (isAgg 32).run Try.prog W = .ok true W := by kernel_rfl
  have h2 : (sizeOf 32).run Try.prog W = .ok 32 W := by kernel_rfl
  simp [part, h1, h2, h]
theorem exV (v : Vx) (h : v.ok) : v.cells.toArray.extract 0 32 = (U v.h).toArray := by
  apply Array.toList_inj.1
  rw [Array.toList_extract, List.extract_eq_take_drop]
  exact Vx.hash h
/-- are two vertices the same? -/
def eqVx (x y : Vx) : Bool := decide (x.h = y.h) && decide (x.n = y.n)
theorem eqVx_iff (x y : Vx) : eqVx x y = true ↔ x = y := by
  unfold eqVx
  simp only [Bool.and_eq_true, decide_eq_true_eq]
  cases x; cases y; simp
theorem eqV (k : Nat) (x y : Vx) (hx : x.ok) (hy : y.ok) (W : World) : (Op.equalIn (k + 3) 34 (.agg x.cells.toArray) (.agg y.cells.toArray)).run Try.prog W = .ok (eqVx x y) W := by
  rw [run_equalIn_struct W (k + 2) 34 _ _ (by kernel_rfl) (by kernel_rfl), eqT_is, fields34]
  have p1 := part32 _ _ (exV x hx) W
  have p2 := part32 _ _ (exV y hy) W
  have p3 := fun (e : Vx) (he : e.ok) => part3 3 _ Try.underlying3 rfl e.cells.toArray 32 (iv e.n) (by rw [List.getElem?_toArray]; exact Vx.line he) W
  have q1 : (Op.equalIn (k + 2) 32 (.agg (U x.h).toArray) (.agg (U y.h).toArray)).run Try.prog W = .ok (decide (x.h = y.h)) W := eqHk k x.h y.h hx hy W
  have q2 : (Op.equalIn (k + 2) 3 (iv x.n) (iv y.n)).run Try.prog W = .ok (x.n == y.n) W := run_equalIn_int (P := Try.prog) (w := W) (k + 1) 3 .i64 .i64 x.n y.n Try.underlying3
  have ti : ∀ a b : Int, decide (a = b) = (a == b) := fun a b => by rw [Bool.eq_iff_iff]; simp
  have hE : eqVx x y = (decide (x.h = y.h) && (x.n == y.n)) := by unfold eqVx; rw [ti]
  rw [hE]
  have e5 : (eqT (k + 2) x.cells.toArray y.cells.toArray []).run Try.prog W = .ok true W := rfl
  have r := eqT_cons (by decide : "Patch" ≠ "_") p1 p2 q1 (eqT_cons (by decide : "Line" ≠ "_") (p3 x hx) (p3 y hy) q2 e5)
  rw [r, Bool.and_true]
theorem eqVb (x y : Vx) (hx : x.ok) (hy : y.ok) (W : World) : (binOp .eql 34 (.agg x.cells.toArray) (.agg y.cells.toArray)).run Try.prog W = .ok (.bool (eqVx x y)) W := by
  have h := eqV 9997 x y hx hy W
  rw [run_eql_struct, show (Op.equalIn 10000 34 (.agg x.cells.toArray) (.agg y.cells.toArray)).run Try.prog W = _ from h]; rfl
theorem neVb (x y : Vx) (hx : x.ok) (hy : y.ok) (W : World) : (binOp .neq 34 (.agg x.cells.toArray) (.agg y.cells.toArray)).run Try.prog W = .ok (.bool (!eqVx x y)) W := by
  have h := eqV 9997 x y hx hy W
  rw [run_neq_struct, show (Op.equalIn 10000 34 (.agg x.cells.toArray) (.agg y.cells.toArray)).run Try.prog W = _ from h]; rfl
theorem eqHb (a b : List UInt8) (ha : a.length = 32) (hb : b.length = 32) (W : World) : (binOp .eql 32 (.agg (U a).toArray) (.agg (U b).toArray)).run Try.prog W = .ok (.bool (decide (a = b))) W := by
  have h := eqHk 9998 a b ha hb W
  rw [run_eql_struct, show (Op.equalIn 10000 32 (.agg (U a).toArray) (.agg (U b).toArray)).run Try.prog W = _ from h]; rfl
theorem neHb (a b : List UInt8) (ha : a.length = 32) (hb : b.length = 32) (W : World) : (binOp .neq 32 (.agg (U a).toArray) (.agg (U b).toArray)).run Try.prog W = .ok (.bool (!decide (a = b))) W := by
  have h := eqHk 9998 a b ha hb W
  rw [run_neq_struct, show (Op.equalIn 10000 32 (.agg (U a).toArray) (.agg (U b).toArray)).run Try.prog W = _ from h]; rfl
set_option maxHeartbeats 1000000 in
theorem top_is (w : World) (X : List Value) (hX : vTop.cells = X) : Calls Try.prog 45 #[] w fun e w' => e = .returned (.agg X.toArray) ∧ Below w.heap.size w w' := by
  subst hX
  obtain ⟨Z, hZ, HZ⟩ := zero34
  obtain ⟨r, hr0⟩ : ∃ b, w.heap.size = b := ⟨_, rfl⟩
  obtain ⟨A, hA⟩ : ∃ A, w.alloc (.cells Z.toArray 34) = A := ⟨_, rfl⟩
  have hB : Below w.heap.size w A := by rw [← hA]; exact below_al _ _
  have hZA : Blk A r 34 Z := by rw [← hA, ← hr0]; exact Blk.new w _ _
  have HA : Hid (Below w.heap.size w A ∧ Blk A r 34 Z ∧ w.heap.size ≤ r ∧ Z.length = 33) := ⟨hB, hZA, by omega, by rw [HZ.out]; exact Vx.len vTop_ok⟩
  have HBL := built34
  clear hB hZA HZ
  go_enter Try.func45, Try.ntmps45
  go_wp2_with (with_reducible change wpList _ _ _ ({ dst := some 1, op := _, type := _, pos := _, after := _, guard := _ } :: _) _ _; refine Hid.out ?_)
  show wpList _ _ _ _ _ _
  refine wpList_built rfl 34 _ rfl vTop.cells.toArray (by rw [← HBL]; first | (simp; done) | (simp; rfl)) ?_
  go_wp2_with (with_reducible change wpList _ _ _ ({ dst := none, op := Op.store 34 _ _, type := _, pos := _, after := _, guard := _ } :: _) _ _; refine Hid.out ?_)
  show wpList _ _ _ _ _ _
  refine wpList_store_blk rfl 34 (.tmp 0) (.tmp 1) rfl r 0 34 Z vTop.cells rfl rfl HA.out.2.1 (by rw [HA.out.2.2.2, Vx.len vTop_ok]; omega) (info34 vTop_ok) (Vx.one _) ?_
  intro W1 hx hg
  have H1 : Hid (Blk W1 r 34 vTop.cells ∧ Below w.heap.size w W1) := ⟨blk_all hx.out (by rw [HA.out.2.2.2, Vx.len vTop_ok]), below_gr HA.out.1 hg.out HA.out.2.2.1⟩
  clear hx hg hA hr0
  go_wp2
  exact ret_c rfl rfl rfl H1.out.1 Try.underlying34 rfl (info34 vTop_ok) ⟨rfl, H1.out.2⟩
set_option maxHeartbeats 1000000 in
theorem bot_is (w : World) (X : List Value) (hX : vBot.cells = X) : Calls Try.prog 46 #[] w fun e w' => e = .returned (.agg X.toArray) ∧ Below w.heap.size w w' := by
  subst hX
  obtain ⟨Z, hZ, HZ⟩ := zero34
  obtain ⟨r, hr0⟩ : ∃ b, w.heap.size = b := ⟨_, rfl⟩
  obtain ⟨A, hA⟩ : ∃ A, w.alloc (.cells Z.toArray 34) = A := ⟨_, rfl⟩
  have hB : Below w.heap.size w A := by rw [← hA]; exact below_al _ _
  have hZA : Blk A r 34 Z := by rw [← hA, ← hr0]; exact Blk.new w _ _
  have HA : Hid (Below w.heap.size w A ∧ Blk A r 34 Z ∧ w.heap.size ≤ r ∧ Z.length = 33) := ⟨hB, hZA, by omega, by rw [HZ.out]; exact Vx.len vTop_ok⟩
  have HBL := built34b
  clear hB hZA HZ
  go_enter Try.func46, Try.ntmps46
  go_wp2_with (with_reducible change wpList _ _ _ ({ dst := some 1, op := _, type := _, pos := _, after := _, guard := _ } :: _) _ _; refine Hid.out ?_)
  show wpList _ _ _ _ _ _
  refine wpList_built rfl 34 _ rfl vBot.cells.toArray (by rw [← HBL]; first | (simp; done) | (simp; rfl)) ?_
  go_wp2_with (with_reducible change wpList _ _ _ ({ dst := none, op := Op.store 34 _ _, type := _, pos := _, after := _, guard := _ } :: _) _ _; refine Hid.out ?_)
  show wpList _ _ _ _ _ _
  refine wpList_store_blk rfl 34 (.tmp 0) (.tmp 1) rfl r 0 34 Z vBot.cells rfl rfl HA.out.2.1 (by rw [HA.out.2.2.2, Vx.len vBot_ok]; omega) (info34 vBot_ok) (Vx.one _) ?_
  intro W1 hx hg
  have H1 : Hid (Blk W1 r 34 vBot.cells ∧ Below w.heap.size w W1) := ⟨blk_all hx.out (by rw [HA.out.2.2.2, Vx.len vBot_ok]), below_gr HA.out.1 hg.out HA.out.2.2.1⟩
  clear hx hg hA hr0
  go_wp2
  exact ret_c rfl rfl rfl H1.out.1 Try.underlying34 rfl (info34 vBot_ok) ⟨rfl, H1.out.2⟩
end Go.Proofs.Ytjcihaohpbmogaa.Oct
