/-
  Layer 5 (disk): what a disk is and what its calls make of it, on plain data. Of no program.
-/
import Derived.WalkKit
namespace Go.Proofs.Ytmhdldhplhffcaa.Oct

/-- a disk: how many sectors; what each has for sure; the writes that are not sure, in order; the plan; is the power gone?; how many operations were done -/
structure Disk where
  n : Nat
  sure : Nat → List UInt8
  pend : List (Nat × List UInt8)
  plan : Option Nat
  down : Bool
  ops : Nat

/-- a sector of noughts -/
def zeros : List UInt8 := List.replicate 256 0
theorem zeros_length : zeros.length = 256 := List.length_replicate ..

def put (f : Nat → List UInt8) (x : Nat × List UInt8) : Nat → List UInt8 := fun i => if i = x.1 then x.2 else f i
def settled (f : Nat → List UInt8) (l : List (Nat × List UInt8)) : Nat → List UInt8 := l.foldl put f

theorem settled_nil (f : Nat → List UInt8) : settled f [] = f := rfl
theorem settled_cons (f : Nat → List UInt8) (x : Nat × List UInt8) (l : List (Nat × List UInt8)) : settled f (x :: l) = settled (put f x) l := rfl
theorem settled_snoc (f : Nat → List UInt8) (l : List (Nat × List UInt8)) (x : Nat × List UInt8) : settled f (l ++ [x]) = put (settled f l) x := by simp [settled]
theorem settled_none (l : List (Nat × List UInt8)) (i : Nat) : ∀ f : Nat → List UInt8, (∀ x ∈ l, x.1 ≠ i) → settled f l i = f i := by
  induction l with
  | nil => intro f _; rfl
  | cons x l ih =>
    intro f h
    rw [settled_cons, ih _ (fun y hy => h y (List.mem_cons_of_mem _ hy))]
    have := h x (List.mem_cons_self ..)
    simp [put, Ne.symm this]
theorem settled_at (l : List (Nat × List UInt8)) (i : Nat) (b : List UInt8) : ∀ (f : Nat → List UInt8) (p : Nat), l[p]? = some (i, b) → (∀ q y, p < q → l[q]? = some y → y.1 ≠ i) → settled f l i = b := by
  induction l with
  | nil => intro f p h; simp at h
  | cons x l ih =>
    intro f p h hl
    rw [settled_cons]
    cases p with
    | zero =>
      simp at h
      subst h
      rw [settled_none l i _ (fun y hy => by
        obtain ⟨q, hq, e⟩ := List.getElem_of_mem hy
        exact hl (q + 1) y (by omega) (by simp [hq, e]))]
      simp [put]
    | succ p =>
      simp at h
      exact ih _ p h (fun q y hq hy => hl (q + 1) y (by omega) (by simpa using hy))

def Good (D : Disk) : Prop := 1 ≤ D.n ∧ D.n ≤ 4096 ∧ (∀ i, (D.sure i).length = 256) ∧ (∀ x ∈ D.pend, x.1 < D.n ∧ x.2.length = 256) ∧ (∀ k, D.plan = some k → k ≤ 9223372036854775807)

theorem put_length {f : Nat → List UInt8} {x : Nat × List UInt8} (h : ∀ i, (f i).length = 256) (hx : x.2.length = 256) (i : Nat) : (put f x i).length = 256 := by
  unfold put; split
  · exact hx
  · exact h i
theorem settled_length {l : List (Nat × List UInt8)} (hl : ∀ x ∈ l, x.2.length = 256) : ∀ {f : Nat → List UInt8}, (∀ i, (f i).length = 256) → ∀ i, (settled f l i).length = 256 := by
  induction l with
  | nil => intro f h i; exact h i
  | cons x l ih =>
    intro f h i
    rw [settled_cons]
    exact ih (fun y hy => hl y (List.mem_cons_of_mem _ hy)) (put_length h (hl x (List.mem_cons_self ..))) i

def Disk.spent (D : Disk) : Disk := { D with plan := D.plan.map (· - 1), ops := D.ops + 1 }
def Disk.off (D : Disk) : Disk := { D with down := true }
/-- the plan is used up -/
def Disk.out (D : Disk) : Bool := D.plan == some 0

def Disk.write (D : Disk) (i : Int) (b : List UInt8) : Int × Disk :=
  if D.down then (50, D) else if ¬ (0 ≤ i ∧ i < D.n) ∨ b.length ≠ 256 then (2, D) else if D.out then (50, D.off) else (0, { D.spent with pend := D.pend ++ [(i.toNat, b)] })
def Disk.flush (D : Disk) : Int × Disk :=
  if D.down then (50, D) else if D.out then (50, D.off) else (0, { D.spent with sure := settled D.sure D.pend, pend := [] })
def Disk.arm (D : Disk) (n : Int) : Int × Disk := if D.down then (50, D) else if n < 0 then (2, D) else (0, { D with plan := some n.toNat })
def Disk.read (D : Disk) (i : Int) : List UInt8 × Int :=
  if D.down then ([], 50) else if ¬ (0 ≤ i ∧ i < D.n) then ([], 2) else (settled D.sure D.pend i.toNat, 0)
/-- the pending writes at some places, in their own order -/
def kept (keep : List Int) (l : List (Nat × List UInt8)) : List (Nat × List UInt8) := (l.zipIdx.filter (fun x => decide ((x.2 : Int) ∈ keep))).map (·.1)
def Disk.restart (D : Disk) (keep : List Int) : Int × Disk :=
  if ∀ p ∈ keep, 0 ≤ p ∧ p < D.pend.length then (0, { D with sure := settled D.sure (kept keep D.pend), pend := [], down := false, plan := none }) else (2, D)

theorem kept_sub {keep : List Int} {l : List (Nat × List UInt8)} {x : Nat × List UInt8} (h : x ∈ kept keep l) : x ∈ l := by
  obtain ⟨y, hy, rfl⟩ := List.mem_map.1 h
  have := (List.mem_filter.1 hy).1
  exact List.fst_mem_of_mem_zipIdx this

theorem Good.spent {D : Disk} (h : Good D) : Good D.spent := by
  obtain ⟨a, b, c, d, e⟩ := h
  refine ⟨a, b, c, d, fun k hk => ?_⟩
  simp only [Disk.spent] at hk
  cases hp : D.plan with
  | none => rw [hp] at hk; simp at hk
  | some j => rw [hp] at hk; have := e j hp; simp at hk; omega
theorem Good.off {D : Disk} (h : Good D) : Good D.off := h
theorem Good.write {D : Disk} (h : Good D) (i : Int) (b : List UInt8) : Good (D.write i b).2 := by
  unfold Disk.write
  split
  · exact h
  split
  · exact h
  split
  · exact h.off
  · rename_i h1 h2 h3
    have hs := h.spent
    refine ⟨hs.1, hs.2.1, hs.2.2.1, fun x hx => ?_, hs.2.2.2.2⟩
    rcases List.mem_append.1 hx with hx | hx
    · exact hs.2.2.2.1 x hx
    · have : x = (i.toNat, b) := by simpa using hx
      subst this
      have hh : (0 ≤ i ∧ i < D.n) ∧ b.length = 256 := by
        refine ⟨Classical.byContradiction fun c => h2 (.inl c), Classical.byContradiction fun c => h2 (.inr c)⟩
      exact ⟨show i.toNat < D.n by omega, hh.2⟩
theorem Good.flush {D : Disk} (h : Good D) : Good D.flush.2 := by
  unfold Disk.flush
  split
  · exact h
  split
  · exact h.off
  · have hs := h.spent
    exact ⟨hs.1, hs.2.1, settled_length (fun x hx => (h.2.2.2.1 x hx).2) h.2.2.1, fun x hx => by simp at hx, hs.2.2.2.2⟩
theorem Good.arm {D : Disk} (h : Good D) (n : Int) (hn : n ≤ 9223372036854775807) : Good (D.arm n).2 := by
  unfold Disk.arm
  split
  · exact h
  split
  · exact h
  · exact ⟨h.1, h.2.1, h.2.2.1, h.2.2.2.1, fun k hk => by simp at hk; omega⟩
theorem Good.restart {D : Disk} (h : Good D) (keep : List Int) : Good (D.restart keep).2 := by
  unfold Disk.restart
  split
  · exact ⟨h.1, h.2.1, settled_length (fun x hx => (h.2.2.2.1 x (kept_sub hx)).2) h.2.2.1, fun x hx => by simp at hx, fun k hk => by simp at hk⟩
  · exact h

#print axioms Good.write
end Go.Proofs.Ytmhdldhplhffcaa.Oct
