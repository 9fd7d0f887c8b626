/-
  Layer 5 (disk): how a disk of the document's lies in memory; what is kept while one is changed; small laws on maps and blocks.
-/
import Derived.Test.YtmhdldhplhffcaaRows
import Derived.Test.YtmhdldhplhffcaaModel
import Derived.Test.YtmhdldhplhffcaaBlk
import Derived.Test.YtmhdldhplhffcaaSlices
import Derived.Maps.OwnSet
import Derived.Maps.OwnOps
import Derived.Maps.AppendAt
namespace Go.Proofs.Ytmhdldhplhffcaa.Oct
open Go.RowKit Go.Maps

/-- all is kept but the blocks of S, and new ones -/
structure Keep (S : Nat → Prop) (w w' : World) : Prop where
  os : w'.os = w.os
  tape : w'.tape = w.tape
  output : w'.output = w.output
  size : w.heap.size ≤ w'.heap.size
  block : ∀ k, k < w.heap.size → ¬ S k → w'.heap[k]? = w.heap[k]?

theorem Keep.refl (S : Nat → Prop) (w : World) : Keep S w w := ⟨rfl, rfl, rfl, Nat.le_refl _, fun _ _ _ => rfl⟩
theorem Keep.trans {S T : Nat → Prop} {w w1 w2 : World} (h : Keep S w w1) (k : Keep T w1 w2) (hs : ∀ j, T j → j < w.heap.size → S j) : Keep S w w2 :=
  ⟨k.os.trans h.os, k.tape.trans h.tape, k.output.trans h.output, Nat.le_trans h.size k.size, fun j hj hn => (k.block j (Nat.lt_of_lt_of_le hj h.size) (fun ht => hn (hs j ht hj))).trans (h.block j hj hn)⟩
theorem Keep.grown {S : Nat → Prop} {w w' : World} {b : Nat} (h : w.grownBy w' (some b)) (hb : S b) : Keep S w w' := ⟨h.os, h.tape, h.output, h.size, fun k hk hn => h.block k hk (fun e => hn (by cases e; exact hb))⟩
theorem Keep.grownO {S : Nat → Prop} {w w' : World} {r : Option Nat} (h : w.grownBy w' r) (hb : ∀ b, r = some b → S b) : Keep S w w' := ⟨h.os, h.tape, h.output, h.size, fun k hk hn => h.block k hk (fun e => hn (hb k e.symm))⟩
theorem Keep.below {S : Nat → Prop} {w w' : World} (h : Below w.heap.size w w') : Keep S w w' := ⟨h.os, h.tape, h.output, h.size, fun k hk _ => h.block k hk⟩
theorem Keep.toBelow {S : Nat → Prop} {B : Nat} {w w' : World} (h : Keep S w w') (hB : B ≤ w.heap.size) (hs : ∀ k, S k → B ≤ k) : Below B w w' :=
  ⟨h.os, h.tape, h.output, h.size, fun k hk => h.block k (by omega) (fun e => by have := hs k e; omega)⟩
theorem Keep.mono {S T : Nat → Prop} {w w' : World} (h : Keep S w w') (hs : ∀ j, j < w.heap.size → S j → T j) : Keep T w w' := ⟨h.os, h.tape, h.output, h.size, fun k hk hn => h.block k hk (fun e => hn (hs k hk e))⟩
theorem Keep.none_below {w w' : World} (h : Keep (fun _ => False) w w') : Below w.heap.size w w' := ⟨h.os, h.tape, h.output, h.size, fun k hk => h.block k hk (fun e => e)⟩
theorem Keep.drew {S : Nat → Prop} {w w' : World} (h : Keep S w w') : Keep S w w'.drew := ⟨h.os, h.tape, h.output, h.size, h.block⟩
theorem Keep.blk {S : Nat → Prop} {w w' : World} (h : Keep S w w') {b : Nat} {t : TypeId} {L : List Value} (hb : Blk w b t L) (hn : ¬ S b) : Blk w' b t L := (h.block b hb.lt hn).trans hb
theorem Keep.owns {S : Nat → Prop} {w w' : World} (h : Keep S w w') {H : Type} {P : Program} {k : TypeId} {R : Value → Option (DataW H × List MemPlace)} {b n : Nat} {D : DataW H} (hb : w.ownsMap P k R b n D) (hn : ¬ S b) : w'.ownsMap P k R b n D := by
  have hlt := hb.lt
  obtain ⟨es, clock, h1, h2⟩ := hb
  exact ⟨es, clock, (h.block b hlt hn).trans h1, h2⟩

/-- the bytes of cells -/
def bytesOf : List Value → Option (List UInt8)
  | [] => some []
  | .int .u8 z :: r => if 0 ≤ z ∧ z < 256 then (bytesOf r).map (UInt8.ofNat z.toNat :: ·) else none
  | _ => none
theorem bytesOf_U : ∀ l : List UInt8, bytesOf (U l) = some l
  | [] => rfl
  | b :: r => by
    have := bytesOf_U r
    have hb := b.toNat_lt
    simp only [U, List.map_cons, bytesOf]
    rw [if_pos ⟨by omega, by omega⟩]
    unfold U at this
    rw [this]
    simp
theorem bytesOf_inv : ∀ {vs : List Value} {l : List UInt8}, bytesOf vs = some l → vs = U l
  | [], l, h => by simp [bytesOf] at h; subst h; rfl
  | v :: r, l, h => by
    unfold bytesOf at h
    split at h
    · cases ‹v :: r = []›
    · rename_i z r' e
      cases e
      split at h
      · rename_i hz
        cases hr : bytesOf r with
        | none => rw [hr] at h; simp at h
        | some l' =>
          rw [hr] at h
          simp at h
          subst h
          have := bytesOf_inv hr
          subst this
          simp only [U, List.map_cons, List.cons.injEq, and_true, Value.int.injEq, true_and]
          rw [UInt8.toNat_ofNat']
          omega
      · cases h
    · cases h

/-- how a sector reads as an element of a map -/
def RS (v : Value) : Option (DataW Unit × List MemPlace) :=
  match v with
  | .agg a => match bytesOf a.toList with
    | some l => if l.length = 256 then some (.lit (.string l), []) else none
    | none => none
  | _ => none
/-- a sector's datum -/
def sd (l : List UInt8) : DataW Unit := .lit (.string l)
theorem RS_mk (l : List UInt8) (h : l.length = 256) : RS (.agg (U l).toArray) = some (sd l, []) := by
  simp [RS, bytesOf_U, h, sd]
theorem RS_inv {v : Value} {l : List UInt8} {ps : List MemPlace} (h : RS v = some (sd l, ps)) : v = .agg (U l).toArray ∧ l.length = 256 := by
  unfold RS at h
  split at h
  · rename_i a
    split at h
    · rename_i l' hl
      split at h
      · rename_i h256
        simp [sd] at h
        obtain ⟨rfl, _⟩ := h
        have e := bytesOf_inv hl
        refine ⟨?_, h256⟩
        rw [← e]
      · cases h
    · cases h
  · cases h

theorem keyed : Keyed Try.prog 3 := int_keyed Try.underlying3
/-- a sector's number as a key -/
def kl (i : Nat) : Lit := .int .i64 (i : Int)
theorem kl_ne {i j : Nat} (h : i ≠ j) : kl i ≠ kl j := fun e => h (by simp [kl] at e; omega)
theorem kl_key (i : Nat) : WideAt.IsKeyLit (kl i) := trivial
theorem key_of (i : Nat) (h : i < 9223372036854775808) : keyOf Try.prog 3 (.int .i64 (i : Int)) = some (kl i) :=
  keyOf_int_mk Try.underlying3 (WalkArith.wf_i64 (by omega))

/-- a pending write's cells -/
def wc (x : Nat × List UInt8) : List Value := .int .i64 (x.1 : Int) :: U x.2
/-- where the last pending write to each sector stands -/
def LastOk (DL : DataW Unit) (l : List (Nat × List UInt8)) : Prop :=
  ∀ i : Nat, (Maps.has DL (kl i) = false ∧ ∀ x ∈ l, x.1 ≠ i) ∨
    (∃ p b, Maps.has DL (kl i) = true ∧ (∀ z, DL.atKey (kl i) z = .lit (.int .i64 ((p : Nat) : Int))) ∧ l[p]? = some (i, b) ∧ ∀ q y, p < q → l[q]? = some y → y.1 ≠ i)

def planI : Option Nat → Int
  | none => -1
  | some k => k

/-- the disk's own cells -/
def dc (D : Disk) (bs : Nat) (pv : Value) (bl : Nat) : List Value :=
  [.int .i64 (D.n : Int), .map (some bs), pv, .map (some bl), .int .i64 (planI D.plan), .bool D.down, .int .i64 (D.ops : Int)]

/-- a disk in memory, its parts named: its block d, its two maps, its pending writes -/
structure DkAt (w : World) (d bs bl : Nat) (pv : Value) (nS nL : Nat) (DS DL : DataW Unit) (D : Disk) : Prop where
  blk : Blk w d 61 (dc D bs pv bl)
  sure : w.ownsMap Try.prog 3 RS bs nS DS
  last : w.ownsMap Try.prog 3 (plainElem Try.prog 3) bl nL DL
  looks : ∀ i : Nat, DS.atKey (kl i) (sd zeros) = sd (D.sure i)
  lasts : LastOk DL D.pend
  row : w.ownsRow 0 75 257 pv D.pend.length (D.pend.flatMap wc)
  roomS : nS + D.pend.length ≤ D.ops
  roomL : nL ≤ D.ops
  ne : bs ≠ bl
  good : Good D

/-- a disk in memory; S: its blocks -/
def Dk (w : World) (S : Nat → Prop) (d : Nat) (D : Disk) : Prop :=
  ∃ bs bl pv nS nL DS DL, DkAt w d bs bl pv nS nL DS DL D ∧ S d ∧ S bs ∧ S bl ∧ (∀ g, pv.ownBlock = some g → S g) ∧ (∀ k, S k → k < w.heap.size)

theorem row_kept {S : Nat → Prop} {w w' : World} {base : Nat} {e : TypeId} {size : Nat} {v : Value} {n : Nat} {xs : List Value} (h : Keep S w w') (hr : w.ownsRow base e size v n xs) (hn : ∀ g, v.ownBlock = some g → ¬ S g) : w'.ownsRow base e size v n xs := by
  obtain ⟨h1, h2⟩ := hr
  refine ⟨h1, ?_⟩
  rcases h2 with h2 | ⟨g, cap, cur, rfl, hb, hg, r⟩
  · exact .inl h2
  · exact .inr ⟨g, cap, cur, rfl, hb, (h.block g (lt_of_block hg) (hn g rfl)).trans hg, r⟩

/-- a disk whose blocks are kept stays -/
theorem Dk.keep {w w' : World} {S T : Nat → Prop} {d : Nat} {D : Disk} (h : Dk w S d D) (hk : Keep T w w') (hST : ∀ k, S k → ¬ T k) : Dk w' S d D := by
  obtain ⟨bs, bl, pv, nS, nL, DS, DL, A, h1, h2, h3, h4, h5⟩ := h
  exact ⟨bs, bl, pv, nS, nL, DS, DL, ⟨hk.blk A.blk (hST _ h1), hk.owns A.sure (hST _ h2), hk.owns A.last (hST _ h3), A.looks, A.lasts, row_kept hk A.row (fun g hg => hST _ (h4 g hg)), A.roomS, A.roomL, A.ne, A.good⟩, h1, h2, h3, h4, fun k hk' => Nat.lt_of_lt_of_le (h5 k hk') hk.size⟩
theorem Dk.below {w w' : World} {S : Nat → Prop} {d : Nat} {D : Disk} (h : Dk w S d D) (hb : Below w.heap.size w w') : Dk w' S d D := h.keep (Keep.below (S := fun _ => False) hb) (fun _ _ e => e)
theorem Dk.good {w : World} {S : Nat → Prop} {d : Nat} {D : Disk} (h : Dk w S d D) : Good D := by obtain ⟨bs, bl, pv, nS, nL, DS, DL, A, _⟩ := h; exact A.good

/-- what a call of a disk leaves: the disk D', its blocks old ones of its own or new, all else kept -/
def After (w : World) (S : Nat → Prop) (d : Nat) (D' : Disk) (w' : World) : Prop :=
  ∃ S', Dk w' S' d D' ∧ (∀ k, S' k → S k ∨ w.heap.size ≤ k) ∧ Keep S w w'

theorem After.same {w w' : World} {S : Nat → Prop} {d : Nat} {D : Disk} (h : Dk w S d D) (hb : Below w.heap.size w w') : After w S d D w' :=
  ⟨S, h.below hb, fun _ hk => .inl hk, Keep.below hb⟩
theorem After.trans {w w1 w2 : World} {S : Nat → Prop} {d : Nat} {D1 D2 : Disk} (h : After w S d D1 w1) (k : ∀ S', Dk w1 S' d D1 → After w1 S' d D2 w2) : After w S d D2 w2 := by
  obtain ⟨S1, hd1, hs1, hk1⟩ := h
  obtain ⟨S2, hd2, hs2, hk2⟩ := k S1 hd1
  refine ⟨S2, hd2, fun j hj => ?_, hk1.trans hk2 (fun j hj hlt => (hs1 j hj).resolve_right (by omega))⟩
  rcases hs2 j hj with h | h
  · exact hs1 j h
  · exact .inr (Nat.le_trans hk1.size h)

/-- a new block out of a value -/
theorem wpList_boxed {P : Program} {ops : Array Oper} {rest : List Oper} {o : Oper} {a : Act} {w : World} {Q : Exit → Act → World → Prop} (hg : o.guard = none) (t : TypeId) (x : Operand) (ho : o.op = .box t x)
    (cells : Array Value) (hx : (a.eval x).cells = cells)
    (h : wpList P ops Q rest (a.put o.dst (.pointer (some ⟨w.heap.size, 0, none⟩))) (w.alloc (.cells cells t))) : wpList P ops Q (o :: rest) a w := by
  subst hx
  refine wpList_plain hg fun K hK => ?_
  unfold Oper.wp execOp
  simp only [ho, Sem.run_bind, Instr.box, newVar, newRow, run_newObj_alloc, Sem.run_pure, Result.andThen_ok]
  exact hK _ _ h

theorem wpList_built {P : Program} {ops : Array Oper} {rest : List Oper} {o : Oper} {a : Act} {w : World} {Q : Exit → Act → World → Prop} (hg : o.guard = none) (t : TypeId) (parts : Array (Nat × Operand)) (ho : o.op = .build t parts)
    (cells : Array Value) (hb : P.built t (parts.map fun (i, x) => (i, a.eval x)).toList = some cells) (h : wpList P ops Q rest (a.put o.dst (.agg cells)) w) : wpList P ops Q (o :: rest) a w := by
  refine wpList_build hg t parts ho (by rw [hb]; rfl) ?_
  rw [hb]
  exact h

/-- 'clear(m)' -/
theorem owns_clear {H : Type} {P : Program} {k e t : TypeId} {R : Value → Option (DataW H × List MemPlace)} {w : World} {b n : Nat} {D : DataW H} (h : w.ownsMap P k R b n D) (ht : P.underlying t = some (.map k e)) (ty : TypeId) :
    ∃ w', (Builtin.clear_ #[t] ty #[.map (some b)]).run P w = .ok (.tuple #[]) w' ∧ w'.ownsMap P k R b 0 (.map []) ∧ w.grownBy w' (some b) := by
  obtain ⟨es, clock, hb, F, hs, hD⟩ := h
  refine ⟨_, by simp [Builtin.clear_, run_underlying ht, MapKept.run_getObj_map hb, MapKept.run_setObj_map _ hb, Result.andThen]; rfl, ⟨#[], clock, (MapKept.heap_set hb).1, ⟨by simp, MapKept.stamped_empty _, by simp⟩, Nat.le_refl _, rfl⟩, ?_⟩
  exact ⟨rfl, rfl, rfl, by simp, fun k _ hk => (MapKept.heap_set hb).2 k (fun e => hk (by rw [e]))⟩

#print axioms Dk.keep
#print axioms owns_clear
end Go.Proofs.Ytmhdldhplhffcaa.Oct
