/-
  Layer 5 (disk): the reference's disk in memory.
-/
import Derived.Test.YtmhdldhplhffcaaWritten
import Derived.Test.YtmhdldhplhffcaaTells
namespace Go.Proofs.Ytmhdldhplhffcaa.Oct
open Go.RowKit Go.Lib

/-- the sure sectors as texts -/
def strs (f : Nat → List UInt8) (n : Nat) : List Value := (List.range n).map fun i => Value.string (strOf (f i))
theorem strs_length (f : Nat → List UInt8) (n : Nat) : (strs f n).length = n := by simp [strs]
theorem strs_get (f : Nat → List UInt8) (n i : Nat) (h : i < n) : (strs f n)[i]? = some (.string (strOf (f i))) := by simp [strs, h]
theorem strs_succ (f : Nat → List UInt8) (n : Nat) : strs f (n + 1) = strs f n ++ [.string (strOf (f n))] := by simp [strs, List.range_succ]
theorem strs_put (f : Nat → List UInt8) (n : Nat) (x : Nat × List UInt8) : (strs f n).set x.1 (.string (strOf x.2)) = strs (put f x) n := by
  apply List.ext_getElem?
  intro i
  by_cases hi : i < n
  · rw [strs_get _ _ _ hi, List.getElem?_set]
    by_cases e : x.1 = i
    · subst e
      rw [if_pos rfl, if_pos (by rw [strs_length]; exact hi)]
      simp [put]
    · rw [if_neg e, strs_get _ _ _ hi]
      simp [put, Ne.symm e]
  · rw [List.getElem?_eq_none (by simp [strs]; omega), List.getElem?_eq_none (by simp [strs]; omega)]
theorem strs_one (f : Nat → List UInt8) (n : Nat) : ∀ v ∈ strs f n, v.oneCell' = true := by
  intro v hv
  obtain ⟨i, _, rfl⟩ := List.mem_map.1 hv
  rfl
/-- the pending writes -/
def puts (l : List (Nat × List UInt8)) : List Value := l.flatMap fun x => [Value.int .i64 (x.1 : Int), .string (strOf x.2)]
theorem puts_length : ∀ l : List (Nat × List UInt8), (puts l).length = l.length * 2
  | [] => rfl
  | x :: l => by
    have := puts_length l
    simp only [puts] at this
    simp only [puts, List.flatMap_cons, List.length_append, List.length_cons, List.length_nil, this]
    omega
theorem puts_snoc (l : List (Nat × List UInt8)) (x : Nat × List UInt8) : puts (l ++ [x]) = puts l ++ [.int .i64 (x.1 : Int), .string (strOf x.2)] := by simp [puts]
theorem puts_get : ∀ (l : List (Nat × List UInt8)) (t : Nat) (x : Nat × List UInt8), l[t]? = some x → (puts l)[t * 2]? = some (.int .i64 (x.1 : Int)) ∧ (puts l)[t * 2 + 1]? = some (.string (strOf x.2))
  | [], t, x, h => by simp at h
  | y :: l, t, x, h => by
    cases t with
    | zero => simp at h; subst h; exact ⟨rfl, rfl⟩
    | succ t =>
      have ih := puts_get l t x (by simpa using h)
      have e1 : (t + 1) * 2 = t * 2 + 1 + 1 := by omega
      have e2 : (t + 1) * 2 + 1 = t * 2 + 1 + 1 + 1 := by omega
      rw [e1]
      simp only [puts, List.flatMap_cons, List.cons_append, List.nil_append, List.getElem?_cons_succ]
      exact ih
theorem puts_one (l : List (Nat × List UInt8)) : ∀ v ∈ puts l, v.oneCell' = true := by
  intro v hv
  obtain ⟨x, _, hx⟩ := List.mem_flatMap.1 hv
  simp at hx
  rcases hx with rfl | rfl <;> rfl
/-- the disk's own cells -/
def rc (D : Disk) (sv pv : Value) : List Value := [sv, pv, .bool D.down, .bool D.plan.isSome, .int .i64 ((D.plan.getD 0 : Nat) : Int), .int .i64 (D.ops : Int)]
/-- the reference's disk in memory -/
structure RAt (w : World) (r : Nat) (sv pv : Value) (D : Disk) : Prop where
  blk : Blk w r 68 (rc D sv pv)
  sure : w.ownsRow 0 9 1 sv D.n (strs D.sure D.n)
  pend : w.ownsRow 0 78 2 pv D.pend.length (puts D.pend)
  good : Good D
  room : D.pend.length ≤ D.ops
def RDk (w : World) (R : Nat → Prop) (r : Nat) (D : Disk) : Prop :=
  ∃ sv pv, RAt w r sv pv D ∧ R r ∧ (∀ g, sv.ownBlock = some g → R g) ∧ (∀ g, pv.ownBlock = some g → R g) ∧ ∀ k, R k → k < w.heap.size
theorem RDk.keep {w w' : World} {S T : Nat → Prop} {d : Nat} {D : Disk} (h : RDk w S d D) (hk : Keep T w w') (hST : ∀ k, S k → ¬ T k) : RDk w' S d D := by
  obtain ⟨sv, pv, A, h1, h2, h3, h4⟩ := h
  exact ⟨sv, pv, ⟨hk.blk A.blk (hST _ h1), row_kept hk A.sure (fun g hg => hST _ (h2 g hg)), row_kept hk A.pend (fun g hg => hST _ (h3 g hg)), A.good, A.room⟩, h1, h2, h3, fun k hk' => Nat.lt_of_lt_of_le (h4 k hk') hk.size⟩
theorem RDk.below {w w' : World} {S : Nat → Prop} {d : Nat} {D : Disk} (h : RDk w S d D) (hb : Below w.heap.size w w') : RDk w' S d D := h.keep (Keep.below (S := fun _ => False) hb) (fun _ _ e => e)
def RAfter (w : World) (R : Nat → Prop) (r : Nat) (D' : Disk) (w' : World) : Prop :=
  ∃ R', RDk w' R' r D' ∧ (∀ k, R' k → R k ∨ w.heap.size ≤ k) ∧ Keep R w w'
theorem RAfter.same {w w' : World} {S : Nat → Prop} {d : Nat} {D : Disk} (h : RDk w S d D) (hb : Below w.heap.size w w') : RAfter w S d D w' :=
  ⟨S, h.below hb, fun _ hk => .inl hk, Keep.below hb⟩
theorem RDk.lt {w : World} {S : Nat → Prop} {d : Nat} {D : Disk} (h : RDk w S d D) : ∀ k, S k → k < w.heap.size := by obtain ⟨sv, pv, A, h1, h2, h3, h4⟩ := h; exact h4
theorem RDk.good {w : World} {S : Nat → Prop} {d : Nat} {D : Disk} (h : RDk w S d D) : Good D := by obtain ⟨sv, pv, A, _⟩ := h; exact A.good
/-- rows of unlike types, and the disk's own block, are apart -/
theorem rows_ne {w : World} {B B' e e' sz sz' n n' : Nat} {v v' : Value} {xs xs' : List Value} (h : w.ownsRow B e sz v n xs) (h' : w.ownsRow B' e' sz' v' n' xs') (hne : e ≠ e') {g : Nat} (hg : v.ownBlock = some g) : v'.ownBlock ≠ some g := by
  intro hg'
  obtain ⟨c, hc⟩ := row_type h hg
  obtain ⟨c', hc'⟩ := row_type h' hg'
  rw [hc] at hc'
  cases hc'
  exact hne rfl
theorem blk_row_ne {w : World} {b t B e sz n : Nat} {L : List Value} {v : Value} {xs : List Value} (hb : Blk w b t L) (h : w.ownsRow B e sz v n xs) (hne : t ≠ e) : v.ownBlock ≠ some b := by
  intro hg
  obtain ⟨c, hc⟩ := row_type h hg
  unfold Blk at hb
  rw [hb] at hc
  cases hc
  exact hne rfl
#print axioms RDk.keep
end Go.Proofs.Ytmhdldhplhffcaa.Oct
