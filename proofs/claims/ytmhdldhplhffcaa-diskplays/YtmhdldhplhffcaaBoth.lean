/-
  Layer 5 (disk): a disk and the reference's, side by side.
-/
import Derived.Test.YtmhdldhplhffcaaSame
namespace Go.Proofs.Ytmhdldhplhffcaa.Oct
open Go.RowKit Go.Lib

section
variable {w : World} {R : Nat → Prop} {r : Nat} {D : Disk}
theorem rwrite_dk (h : RDk w R r D) (hn : D.ops < 1000000000) (i : Int) (b : List UInt8) (hb : b.length ≤ 140737488355328) :
    Calls Try.prog 32 #[.pointer (some ⟨r, 0, none⟩), .int .i64 i, .string (strOf b)] w fun e w' => e = .returned (.int .i64 (D.write i b).1) ∧ RAfter w R r (D.write i b).2 w' := by
  obtain ⟨sv, pv, A, h1, h2, h3, h4⟩ := h
  exact (rwrite_is A hn i b hb).mono fun e w' ⟨he, hc⟩ => ⟨he, RAfter.of h4 h1 h2 h3 hc⟩
theorem rflush_dk (h : RDk w R r D) (hn : D.ops < 1000000000) :
    Calls Try.prog 33 #[.pointer (some ⟨r, 0, none⟩)] w fun e w' => e = .returned (.int .i64 D.flush.1) ∧ RAfter w R r D.flush.2 w' := by
  obtain ⟨sv, pv, A, h1, h2, h3, h4⟩ := h
  exact (rflush_is A hn).mono fun e w' ⟨he, hc⟩ => ⟨he, RAfter.of h4 h1 h2 h3 hc⟩
theorem rarm_dk (h : RDk w R r D) (n : Int) (hn : n ≤ 9223372036854775807) :
    Calls Try.prog 34 #[.pointer (some ⟨r, 0, none⟩), .int .i64 n] w fun e w' => e = .returned (.int .i64 (D.arm n).1) ∧ RAfter w R r (D.arm n).2 w' := by
  obtain ⟨sv, pv, A, h1, h2, h3, h4⟩ := h
  exact (rarm_is A n hn).mono fun e w' ⟨he, hA, hg⟩ => ⟨he, RAfter.of h4 h1 h2 h3 (RCh.cells hA hg)⟩
theorem rrestart_dk (h : RDk w R r D) (hn : D.ops < 1000000000) (ka : Option Addr) (k kc : Nat) (keep : List Int) (hin : InI w ka k kc keep) (hk : k ≤ 17592186044416) (hne : 0 < k → ∀ b off, ka = some ⟨b, off, none⟩ → ¬ R b) :
    Calls Try.prog 35 #[.pointer (some ⟨r, 0, none⟩), .slice ka k kc] w fun e w' => e = .returned (.int .i64 (D.restart keep).1) ∧ RAfter w R r (D.restart keep).2 w' := by
  obtain ⟨sv, pv, A, h1, h2, h3, h4⟩ := h
  refine (rrestart_is A hn ka k kc keep hin hk (fun hp b off e => ⟨fun e2 => hne hp b off e (by rw [e2]; exact h1), fun e2 => hne hp b off e (h2 b e2)⟩)).mono fun e w' ⟨he, hc⟩ => ⟨he, RAfter.of h4 h1 h2 h3 hc⟩
theorem rread_dk (h : RDk w R r D) (hn : D.ops < 1000000000) (i : Int) :
    Calls Try.prog 36 #[.pointer (some ⟨r, 0, none⟩), .int .i64 i] w fun e w' => e = .returned (.tuple #[.string (strOf (D.read i).1), .int .i64 (D.read i).2]) ∧ w = w' := by
  obtain ⟨sv, pv, A, h1, h2, h3, h4⟩ := h
  exact rread_is A (by omega) i
theorem rclone_dk (h : RDk w R r D) (hn : D.ops < 1000000000) :
    Calls Try.prog 10 #[.pointer (some ⟨r, 0, none⟩)] w fun e w' => e = .returned (.pointer (some ⟨w.heap.size, 0, none⟩)) ∧ RDk w' (fun k => w.heap.size ≤ k ∧ k < w'.heap.size) w.heap.size D ∧ Below w.heap.size w w' := by
  obtain ⟨sv, pv, A, h1, h2, h3, h4⟩ := h
  exact rclone_is A hn
end

/-- a disk D and the reference's E, apart -/
structure Both (w : World) (S R : Nat → Prop) (d r : Nat) (D E : Disk) : Prop where
  dk : Dk w S d D
  rk : RDk w R r E
  ap : ∀ k, S k → ¬ R k
theorem Both.below {w w' : World} {S R : Nat → Prop} {d r : Nat} {D E : Disk} (h : Both w S R d r D E) (hb : Below w.heap.size w w') : Both w' S R d r D E := ⟨h.dk.below hb, h.rk.below hb, h.ap⟩
theorem Both.keep {w w' : World} {S R T : Nat → Prop} {d r : Nat} {D E : Disk} (h : Both w S R d r D E) (hk : Keep T w w') (hT : ∀ k, S k ∨ R k → ¬ T k) : Both w' S R d r D E := ⟨h.dk.keep hk (fun k hs => hT k (.inl hs)), h.rk.keep hk (fun k hs => hT k (.inr hs)), h.ap⟩
/-- what calls of both leave -/
def BAfter (w : World) (S R : Nat → Prop) (d r : Nat) (D E : Disk) (w' : World) : Prop :=
  ∃ S' R', Both w' S' R' d r D E ∧ (∀ k, S' k → S k ∨ w.heap.size ≤ k) ∧ (∀ k, R' k → R k ∨ w.heap.size ≤ k) ∧ Keep (fun k => S k ∨ R k) w w'
theorem BAfter.same {w w' : World} {S R : Nat → Prop} {d r : Nat} {D E : Disk} (h : Both w S R d r D E) (hb : Below w.heap.size w w') : BAfter w S R d r D E w' :=
  ⟨S, R, h.below hb, fun _ h => .inl h, fun _ h => .inl h, Keep.below hb⟩
/-- behind other memory alone -/
theorem BAfter.first {w w1 w2 : World} {S R : Nat → Prop} {d r : Nat} {D E : Disk} (hb : Below w.heap.size w w1) (h : BAfter w1 S R d r D E w2) : BAfter w S R d r D E w2 := by
  obtain ⟨S', R', h1, h2, h3, h4⟩ := h
  refine ⟨S', R', h1, fun k hk => (h2 k hk).imp id (fun e => Nat.le_trans hb.size e), fun k hk => (h3 k hk).imp id (fun e => Nat.le_trans hb.size e), (Keep.below hb).trans h4 (fun j hj _ => hj)⟩
theorem BAfter.then {w w1 w2 : World} {S R : Nat → Prop} {d r : Nat} {D E : Disk} (h : BAfter w S R d r D E w1) (hb : Below w1.heap.size w1 w2) : BAfter w S R d r D E w2 := by
  obtain ⟨S', R', h1, h2, h3, h4⟩ := h
  exact ⟨S', R', h1.below hb, h2, h3, h4.trans (Keep.below (S := fun k => S k ∨ R k) hb) (fun j hj _ => hj)⟩
/-- a call of the disk, then of the reference's -/
theorem BAfter.d {w w1 : World} {S R : Nat → Prop} {d r : Nat} {D D' E : Disk} (h : Both w S R d r D E) (ha : After w S d D' w1) : BAfter w S R d r D' E w1 := by
  obtain ⟨S', k1, k2, k3⟩ := ha
  refine ⟨S', R, ⟨k1, h.rk.keep k3 (fun k hr hs => h.ap k hs hr), fun k hs hr => ?_⟩, k2, fun _ h => .inl h, k3.mono (fun j _ hj => .inl hj)⟩
  rcases k2 k hs with e | e
  · exact h.ap k e hr
  · have := h.rk.lt k hr; omega
theorem BAfter.r {w w1 : World} {S R : Nat → Prop} {d r : Nat} {D E E' : Disk} (h : Both w S R d r D E) (ha : RAfter w R r E' w1) : BAfter w S R d r D E' w1 := by
  obtain ⟨R', k1, k2, k3⟩ := ha
  refine ⟨S, R', ⟨h.dk.keep k3 (fun k hs hr => h.ap k hs hr), k1, fun k hs hr => ?_⟩, fun _ h => .inl h, k2, k3.mono (fun j _ hj => .inr hj)⟩
  rcases k2 k hr with e | e
  · exact h.ap k hs e
  · have := h.dk.lt k hs; omega
theorem BAfter.trans {w w1 w2 : World} {S R : Nat → Prop} {d r : Nat} {D E D2 E2 : Disk} (h : BAfter w S R d r D E w1) (k : ∀ S' R', Both w1 S' R' d r D E → BAfter w1 S' R' d r D2 E2 w2) : BAfter w S R d r D2 E2 w2 := by
  obtain ⟨S1, R1, h1, h2, h3, h4⟩ := h
  obtain ⟨S2, R2, g1, g2, g3, g4⟩ := k S1 R1 h1
  refine ⟨S2, R2, g1, fun j hj => ?_, fun j hj => ?_, h4.trans g4 (fun j hj hlt => ?_)⟩
  · rcases g2 j hj with e | e
    · exact h2 j e
    · exact .inr (Nat.le_trans h4.size e)
  · rcases g3 j hj with e | e
    · exact h3 j e
    · exact .inr (Nat.le_trans h4.size e)
  · rcases hj with hj | hj
    · exact .inl ((h2 j hj).resolve_right (by omega))
    · exact .inr ((h3 j hj).resolve_right (by omega))
/-- both calls, one behind the other -/
theorem BAfter.two {w w1 w2 : World} {S R S1 R1 : Nat → Prop} {d r : Nat} {D E' : Disk} (h2 : ∀ k, S1 k → S k ∨ w.heap.size ≤ k) (h3 : ∀ k, R1 k → R k ∨ w.heap.size ≤ k) (h4 : Keep (fun k => S k ∨ R k) w w1) (ha : BAfter w1 S1 R1 d r D E' w2) : BAfter w S R d r D E' w2 := by
  obtain ⟨S2, R2, g1, g2, g3, g4⟩ := ha
  refine ⟨S2, R2, g1, fun j hj => ?_, fun j hj => ?_, h4.trans g4 (fun j hj hlt => ?_)⟩
  · rcases g2 j hj with e | e
    · exact h2 j e
    · exact .inr (Nat.le_trans h4.size e)
  · rcases g3 j hj with e | e
    · exact h3 j e
    · exact .inr (Nat.le_trans h4.size e)
  · rcases hj with hj | hj
    · exact .inl ((h2 j hj).resolve_right (by omega))
    · exact .inr ((h3 j hj).resolve_right (by omega))

/-- a block of neither stays -/
theorem BAfter.blk {w w1 : World} {S R : Nat → Prop} {d r : Nat} {D E : Disk} (h : BAfter w S R d r D E w1) {b : Nat} {t : TypeId} {L : List Value} (hb : Blk w b t L) (hn : ¬ S b ∧ ¬ R b) : Blk w1 b t L := by
  obtain ⟨S', R', _, _, _, h4⟩ := h
  exact h4.blk hb (fun e => e.elim hn.1 hn.2)
#print axioms BAfter.trans
/-- what an act makes of a disk -/
def Disk.act (D : Disk) (x : ActV) : Disk :=
  if x.kind = 0 then (D.write x.n (if x.short then x.bytes else whole x.bytes)).2
  else if x.kind = 1 then D.flush.2
  else if x.kind = 2 then (D.arm x.n).2
  else if x.kind = 3 then (D.restart x.keep).2
  else D
end Go.Proofs.Ytmhdldhplhffcaa.Oct
