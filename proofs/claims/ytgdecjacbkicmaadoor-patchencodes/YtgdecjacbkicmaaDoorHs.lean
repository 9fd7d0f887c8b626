/-
  Layer 10 (patch): common words; hashes.
-/
import Derived.Test.YtgdecjacbkicmaaDoorBase
import Derived.Test.YtgdecjacbkicmaaDoorBlk
import Derived.Test.YtgdecjacbkicmaaDoorPath
import Derived.WalkLawsBesides
namespace Go.Proofs.YtgdecjacbkicmaaDoor.Oct
open Go.RowKit
set_option maxRecDepth 100000
set_option linter.unusedSimpArgs false
set_option linter.unusedVariables false

abbrev iv (n : Int) : Value := .int .i64 n
abbrev bv (n : Int) : Value := .int .u8 n
abbrev BA := ByteArray
abbrev e0 : BA := ⟨#[]⟩
theorem toList_d (s : BA) : s.toList = s.data.toList := ByteArray.toList_eq s
theorem ba_ext {s t : BA} (h : s.data.toList = t.data.toList) : s = t := by
  have : s.data = t.data := Array.toList_inj.1 h
  cases s; cases t; simpa using this
theorem below_al (w : World) (o : Obj) : Below w.heap.size w (w.alloc o) := (Below.refl _ w).alloc (Nat.le_refl _) o
theorem below_tr {w w1 w2 : World} (h : Below w.heap.size w w1) (k : Below w1.heap.size w1 w2) : Below w.heap.size w w2 := h.trans (k.mono h.size)
theorem below_drew0 (A : World) : Below A.heap.size A A.drew := ⟨rfl, rfl, rfl, Nat.le_refl _, fun _ _ => rfl⟩
theorem below_gr {w w1 w2 : World} {g : Nat} (h : Below w.heap.size w w1) (k : w1.grownBy w2 (some g)) (hg : w.heap.size ≤ g) : Below w.heap.size w w2 :=
  h.grown k h.size (fun j hj => by cases hj; exact hg)
theorem gr_of {w w' : World} {r : Option Nat} (h : Below w.heap.size w w') : w.grownBy w' r := ⟨h.os, h.tape, h.output, h.size, fun k hk _ => h.block k hk⟩
theorem blk_all {w : World} {b : Nat} {t : TypeId} {L cs : List Value} (h : Blk w b t (L.take 0 ++ cs ++ L.drop (0 + cs.length))) (hl : L.length = cs.length) : Blk w b t cs := by
  have e : L.take 0 ++ cs ++ L.drop (0 + cs.length) = cs := by rw [Nat.zero_add, ← hl, List.drop_length]; simp
  rw [e] at h
  exact h
/-- a hash: its bytes -/
abbrev Hs := List UInt8
theorem U_inj : ∀ {a b : List UInt8}, U a = U b → a = b
  | [], [], _ => rfl
  | [], _ :: _, h => by simp [U] at h
  | _ :: _, [], h => by simp [U] at h
  | x :: a, y :: b, h => by
    simp only [U, List.map_cons, List.cons.injEq] at h
    have e : (x.toNat : Int) = y.toNat := by simpa using h.1
    rw [UInt8.toNat_inj.1 (by omega : x.toNat = y.toNat), U_inj (show U a = U b from h.2)]
end Go.Proofs.YtgdecjacbkicmaaDoor.Oct
