/-
  Digests are held against each other.
-/
import Derived.Test.YtchblcfbllcbmaaDoorDig
import Derived.ChangeKeysEq
import Derived.WalkKit
namespace Go.Proofs.YtchblcfbllcbmaaDoor.Oct
open Go.RowKit

theorem part5 (xs : Array Value) (i : Nat) (v : Value) (h : xs[i]? = some v) (W : World) : (part 5 xs i).run Tryd.prog W = .ok v W := by
  simp [part, isAgg, run_underlying Tryd.underlying5, h]
theorem eqItems_same (l : List UInt8) (W : World) : ∀ is : List Nat, (∀ i ∈ is, i < l.length) → (Op.eqItems 9999 5 1 (U l).toArray (U l).toArray is).run Tryd.prog W = .ok true W
  | [], _ => by simp [Op.eqItems]
  | i :: is, h => by
    have hi : i < l.length := h i (by simp)
    have hp := part5 (U l).toArray i _ (by rw [List.getElem?_toArray]; exact U_get l i hi) W
    have he := run_equalIn_int (P := Tryd.prog) (w := W) 9998 5 .u8 .u8 (l[i].toNat : Int) (l[i].toNat : Int) Tryd.underlying5
    have ih := eqItems_same l W is (fun j hj => h j (by simp [hj]))
    simp only [Op.eqItems, Sem.run_bind, Nat.mul_one, hp, Result.andThen_ok, he]
    simpa using ih
theorem eq_same (l : List UInt8) (h : l.length = 32) (W : World) : (Op.equalIn 10000 25 (.agg (U l).toArray) (.agg (U l).toArray)).run Tryd.prog W = .ok true W := by
  obtain ⟨i, hi, -⟩ := Option.map_eq_some_iff.1 (show (Tryd.prog.info? 5).map (·.size) = some 1 by kernel_rfl)
  rw [run_equalIn_array W 9999 (U l).toArray (U l).toArray Tryd.underlying25 hi, show Tryd.prog.cellsOf 5 = 1 by kernel_rfl]
  exact eqItems_same l W _ (by intro i hi; rw [List.mem_range] at hi; omega)
#print axioms eq_same
end Go.Proofs.YtchblcfbllcbmaaDoor.Oct
