/-
  Layer 19 (audit): digests and entries held against each other.
-/
import Derived.Test.YtmmpafaegmejlaaDoorNxt
import Derived.ChangeKeysEq
import Derived.Laws.StructEq
namespace Go.Proofs.YtmmpafaegmejlaaDoor.Oct
open Go.RowKit Sha
set_option linter.unusedSimpArgs false
set_option linter.unusedVariables false

theorem part5 (xs : Array Value) (i : Nat) (v : Value) (h : xs[i]? = some v) (W : World) : (part 5 xs i).run Tryd.prog W = .ok v W := by
  simp [part, isAgg, run_underlying Tryd.underlying5, h]
theorem eqItems_is (k : Nat) (a b : List UInt8) (ha : a.length = 32) (hb : b.length = 32) (W : World) : ∀ is : List Nat, (∀ i ∈ is, i < 32) → (Op.eqItems (k + 1) 5 1 (U a).toArray (U b).toArray is).run Tryd.prog W = .ok (is.all fun i => a[i]? == b[i]?) W
  | [], _ => by simp [Op.eqItems]
  | i :: is, h => by
    have hi : i < 32 := h i (by simp)
    have hia : i < a.length := by omega
    have hib : i < b.length := by omega
    have hp := part5 (U a).toArray i _ (by rw [List.getElem?_toArray]; exact U_get a i hia) W
    have hp2 := part5 (U b).toArray i _ (by rw [List.getElem?_toArray]; exact U_get b i hib) W
    have he := run_equalIn_int (P := Tryd.prog) (w := W) k 5 .u8 .u8 (a[i].toNat : Int) (b[i].toNat : Int) Tryd.underlying5
    have ih := eqItems_is k a b ha hb W is (fun j hj => h j (by simp [hj]))
    have e1 : (a[i]? == b[i]?) = ((a[i].toNat : Int) == (b[i].toNat : Int)) := by
      rw [List.getElem?_eq_getElem hia, List.getElem?_eq_getElem hib]
      by_cases hc : a[i] = b[i]
      · simp [hc]
      · have : ¬ (a[i].toNat : Int) = b[i].toNat := fun hx => hc (UInt8.toNat_inj.1 (by omega))
        rw [beq_eq_false_iff_ne.2 this]
        simpa using hc
    simp only [Op.eqItems, Sem.run_bind, Nat.mul_one, hp, hp2, Result.andThen_ok, he]
    simp only [List.all_cons, e1]
    cases hc : ((a[i].toNat : Int) == (b[i].toNat : Int)) with
    | true => simpa using ih
    | false => simp
theorem eqH (k : Nat) (a b : List UInt8) (ha : a.length = 32) (hb : b.length = 32) (W : World) : (Op.equalIn (k + 2) 35 (.agg (U a).toArray) (.agg (U b).toArray)).run Tryd.prog W = .ok (decide (a = b)) W := by
  obtain ⟨i, hi, -⟩ := Option.map_eq_some_iff.1 (show (Tryd.prog.info? 5).map (·.size) = some 1 by kernel_rfl)
  rw [run_equalIn_array W (k + 1) (U a).toArray (U b).toArray Tryd.underlying35 hi, show Tryd.prog.cellsOf 5 = 1 by kernel_rfl, eqItems_is k a b ha hb W _ (by intro i hi; rw [List.mem_range] at hi; omega)]
  congr 1
  rw [Bool.eq_iff_iff]
  simp only [List.all_eq_true, List.mem_range, beq_iff_eq, decide_eq_true_eq]
  constructor
  · intro h
    apply List.ext_getElem?
    intro i
    by_cases hi : i < 32
    · exact h i hi
    · rw [List.getElem?_eq_none (by omega), List.getElem?_eq_none (by omega)]
  · rintro rfl i _; rfl
/-- what is looked at of fields -/
def eqT (d : Nat) (xs ys : Array Value) : List (String × TypeId × Nat) → Sem Bool
  | [] => pure true
  | f :: fs =>
    if f.1 ≠ "_" then do
      let a ← part f.2.1 xs f.2.2
      let b ← part f.2.1 ys f.2.2
      let r ← Op.equalIn d f.2.1 a b
      if (!r) = true then pure false else eqT d xs ys fs
    else eqT d xs ys fs
theorem eqT_is (d : Nat) (xs ys : Array Value) : ∀ fs : List Field, Op.eqFields d xs ys fs = eqT d xs ys (fs.map fun f => (f.name, f.type, f.offset))
  | [] => rfl
  | f :: fs => by
    simp only [Op.eqFields, eqT, List.map_cons, eqT_is d xs ys fs]
theorem fields37 : (Tryd.prog.fieldsOf 37).toList.map (fun f => (f.name, f.type, f.offset)) = [("Seq", 3, 0), ("Tick", 3, 1), ("Who", 9, 2), ("What", 9, 3), ("Prev", 35, 4)] := by kernel_rfl
theorem part3 (t : TypeId) (d : TypeDesc) (hu : Tryd.prog.underlying t = some d) (hd : d.isRow = false) (xs : Array Value) (i : Nat) (v : Value) (h : xs[i]? = some v) (W : World) : (part t xs i).run Tryd.prog W = .ok v W := by
  have : (isAgg t).run Tryd.prog W = .ok false W := by
    simp [isAgg, run_underlying hu]
    cases d <;> first | rfl | cases hd
  simp [part, this, h]
theorem part35 (xs : Array Value) (l : List UInt8) (h : xs.extract 4 36 = (U l).toArray) (W : World) : (part 35 xs 4).run Tryd.prog W = .ok (.agg (U l).toArray) W := by
  have h1 : (isAgg 35).run Tryd.prog W = .ok true W := by kernel_rfl
  have h2 : (sizeOf 35).run Tryd.prog W = .ok 32 W := by kernel_rfl
  simp [part, h1, h2, h]
theorem ex4 (e : En) (h : e.ok) : e.cells.toArray.extract 4 36 = (U e.prev).toArray := by
  apply Array.toList_inj.1
  rw [Array.toList_extract, List.extract_eq_take_drop]
  show (U e.prev).take 32 = U e.prev
  rw [List.take_of_length_le (by rw [U_length, h.1]; omega)]
/-- are two entries the same? -/
def eqEn (x y : En) : Bool := decide (x.seq = y.seq) && decide (x.tick = y.tick) && decide (x.who = y.who) && decide (x.what = y.what) && decide (x.prev = y.prev)
theorem eqEn_iff (x y : En) : eqEn x y = true ↔ x = y := by
  unfold eqEn
  simp only [Bool.and_eq_true, decide_eq_true_eq]
  cases x; cases y; simp [and_assoc]
theorem eqT_cons {P : Program} {W : World} {d : Nat} {xs ys : Array Value} {nm : String} {t : TypeId} {o : Nat} {a b : Value} {B C : Bool} {fs : List (String × TypeId × Nat)} (hn : nm ≠ "_") (ha : (part t xs o).run P W = .ok a W) (hb : (part t ys o).run P W = .ok b W) (hq : (Op.equalIn d t a b).run P W = .ok B W) (hr : (eqT d xs ys fs).run P W = .ok C W) :
    (eqT d xs ys ((nm, t, o) :: fs)).run P W = .ok (B && C) W := by
  unfold eqT
  rw [if_pos hn]
  simp only [Sem.run_bind, ha, hb, hq, Result.andThen_ok]
  cases B
  · rfl
  · simpa using hr
theorem eqT_run {d : Nat} {W : World} {xs ys : Array Value} {a1 b1 a2 b2 a3 b3 a4 b4 a5 b5 : Value} {B1 B2 B3 B4 B5 : Bool} (h1 : (part 3 xs 0).run Tryd.prog W = .ok a1 W) (k1 : (part 3 ys 0).run Tryd.prog W = .ok b1 W) (q1 : (Op.equalIn d 3 a1 b1).run Tryd.prog W = .ok B1 W) (h2 : (part 3 xs 1).run Tryd.prog W = .ok a2 W) (k2 : (part 3 ys 1).run Tryd.prog W = .ok b2 W) (q2 : (Op.equalIn d 3 a2 b2).run Tryd.prog W = .ok B2 W) (h3 : (part 9 xs 2).run Tryd.prog W = .ok a3 W) (k3 : (part 9 ys 2).run Tryd.prog W = .ok b3 W) (q3 : (Op.equalIn d 9 a3 b3).run Tryd.prog W = .ok B3 W) (h4 : (part 9 xs 3).run Tryd.prog W = .ok a4 W) (k4 : (part 9 ys 3).run Tryd.prog W = .ok b4 W) (q4 : (Op.equalIn d 9 a4 b4).run Tryd.prog W = .ok B4 W) (h5 : (part 35 xs 4).run Tryd.prog W = .ok a5 W) (k5 : (part 35 ys 4).run Tryd.prog W = .ok b5 W) (q5 : (Op.equalIn d 35 a5 b5).run Tryd.prog W = .ok B5 W) :
    (eqT d xs ys [("Seq", 3, 0), ("Tick", 3, 1), ("Who", 9, 2), ("What", 9, 3), ("Prev", 35, 4)]).run Tryd.prog W = .ok (B1 && B2 && B3 && B4 && B5) W := by
  have e5 : (eqT d xs ys []).run Tryd.prog W = .ok true W := rfl
  have r := eqT_cons (by decide : "Seq" ≠ "_") h1 k1 q1 (eqT_cons (by decide : "Tick" ≠ "_") h2 k2 q2 (eqT_cons (by decide : "Who" ≠ "_") h3 k3 q3 (eqT_cons (by decide : "What" ≠ "_") h4 k4 q4 (eqT_cons (by decide : "Prev" ≠ "_") h5 k5 q5 e5))))
  rw [r, Bool.and_true, ← Bool.and_assoc, ← Bool.and_assoc, ← Bool.and_assoc]
theorem eqE (k : Nat) (x y : En) (hx : x.ok) (hy : y.ok) (W : World) : (Op.equalIn (k + 3) 37 (.agg x.cells.toArray) (.agg y.cells.toArray)).run Tryd.prog W = .ok (eqEn x y) W := by
  rw [run_equalIn_struct W (k + 2) 37 _ _ (by kernel_rfl) (by kernel_rfl), eqT_is, fields37]
  have p1 := fun (e : En) => part3 3 _ Tryd.underlying3 rfl e.cells.toArray 0 (iv e.seq) rfl W
  have p2 := fun (e : En) => part3 3 _ Tryd.underlying3 rfl e.cells.toArray 1 (iv e.tick) rfl W
  have p3 := fun (e : En) => part3 9 _ Tryd.underlying9 rfl e.cells.toArray 2 (.string e.who) rfl W
  have p4 := fun (e : En) => part3 9 _ Tryd.underlying9 rfl e.cells.toArray 3 (.string e.what) rfl W
  have p5 := part35 _ _ (ex4 x hx) W
  have p6 := part35 _ _ (ex4 y hy) W
  have q1 : (Op.equalIn (k + 2) 3 (iv x.seq) (iv y.seq)).run Tryd.prog W = .ok (x.seq == y.seq) W := run_equalIn_int (P := Tryd.prog) (w := W) (k + 1) 3 .i64 .i64 x.seq y.seq Tryd.underlying3
  have q2 : (Op.equalIn (k + 2) 3 (iv x.tick) (iv y.tick)).run Tryd.prog W = .ok (x.tick == y.tick) W := run_equalIn_int (P := Tryd.prog) (w := W) (k + 1) 3 .i64 .i64 x.tick y.tick Tryd.underlying3
  have q3 : (Op.equalIn (k + 2) 9 (.string x.who) (.string y.who)).run Tryd.prog W = .ok (x.who.toList == y.who.toList) W := run_equalIn_string (P := Tryd.prog) (w := W) (k + 1) 9 x.who y.who Tryd.underlying9
  have q4 : (Op.equalIn (k + 2) 9 (.string x.what) (.string y.what)).run Tryd.prog W = .ok (x.what.toList == y.what.toList) W := run_equalIn_string (P := Tryd.prog) (w := W) (k + 1) 9 x.what y.what Tryd.underlying9
  have q5 : (Op.equalIn (k + 2) 35 (.agg (U x.prev).toArray) (.agg (U y.prev).toArray)).run Tryd.prog W = .ok (decide (x.prev = y.prev)) W := eqH k x.prev y.prev hx.1 hy.1 W
  have tl : ∀ a b : BA, decide (a = b) = (a.toList == b.toList) := fun a b => by
    rw [Bool.eq_iff_iff]
    simp only [beq_iff_eq, decide_eq_true_eq, toList_d]
    exact ⟨fun h => by rw [h], fun h => ba_ext h⟩
  have ti : ∀ a b : Int, decide (a = b) = (a == b) := fun a b => by rw [Bool.eq_iff_iff]; simp
  have hE : eqEn x y = ((x.seq == y.seq) && (x.tick == y.tick) && (x.who.toList == y.who.toList) && (x.what.toList == y.what.toList) && decide (x.prev = y.prev)) := by
    unfold eqEn
    rw [ti, ti, tl, tl]
  rw [hE]
  generalize (x.seq == y.seq) = B1 at q1
  generalize (x.tick == y.tick) = B2 at q2
  generalize (x.who.toList == y.who.toList) = B3 at q3
  generalize (x.what.toList == y.what.toList) = B4 at q4
  generalize decide (x.prev = y.prev) = B5 at q5
  exact eqT_run (p1 x) (p1 y) q1 (p2 x) (p2 y) q2 (p3 x) (p3 y) q3 (p4 x) (p4 y) q4 p5 p6 q5
theorem neE (x y : En) (hx : x.ok) (hy : y.ok) (W : World) : (binOp .neq 37 (.agg x.cells.toArray) (.agg y.cells.toArray)).run Tryd.prog W = .ok (.bool (!eqEn x y)) W := by
  have h := eqE 9997 x y hx hy W
  rw [run_neq_struct, show (Op.equalIn 10000 37 (.agg x.cells.toArray) (.agg y.cells.toArray)).run Tryd.prog W = _ from h]; rfl
theorem eqB (x y : En) (hx : x.ok) (hy : y.ok) (W : World) : (binOp .eql 37 (.agg x.cells.toArray) (.agg y.cells.toArray)).run Tryd.prog W = .ok (.bool (eqEn x y)) W := by
  have h := eqE 9997 x y hx hy W
  rw [run_eql_struct, show (Op.equalIn 10000 37 (.agg x.cells.toArray) (.agg y.cells.toArray)).run Tryd.prog W = _ from h]; rfl
theorem eqHb (a b : List UInt8) (ha : a.length = 32) (hb : b.length = 32) (W : World) : (binOp .eql 35 (.agg (U a).toArray) (.agg (U b).toArray)).run Tryd.prog W = .ok (.bool (decide (a = b))) W := by
  have h := eqH 9998 a b ha hb W
  rw [run_eql_struct, show (Op.equalIn 10000 35 (.agg (U a).toArray) (.agg (U b).toArray)).run Tryd.prog W = _ from h]; rfl
theorem neHb (a b : List UInt8) (ha : a.length = 32) (hb : b.length = 32) (W : World) : (binOp .neq 35 (.agg (U a).toArray) (.agg (U b).toArray)).run Tryd.prog W = .ok (.bool (!decide (a = b))) W := by
  have h := eqH 9998 a b ha hb W
  rw [run_neq_struct, show (Op.equalIn 10000 35 (.agg (U a).toArray) (.agg (U b).toArray)).run Tryd.prog W = _ from h]; rfl
#print axioms neE
#print axioms eqHb
end Go.Proofs.YtmmpafaegmejlaaDoor.Oct
