/-
  Layer 5 (disk): the calls of a disk, its parts no longer named.
-/
import Derived.Test.YtmhdldhplhffcaaOnes
namespace Go.Proofs.Ytmhdldhplhffcaa.Oct
open Go.RowKit Go.Maps Go.Lib

section
variable {w : World} {S : Nat → Prop} {d : Nat} {D : Disk}

theorem write_dk (h : Dk w S d D) (hn : D.ops < 100000000000) (i : Int) (a : Option Addr) (len cap : Nat) (b : List UInt8) (hin : In w a len cap b) :
    Calls Try.prog 18 #[.pointer (some ⟨d, 0, none⟩), .int .i64 i, .slice a len cap] w fun e w' => e = .returned (.int .i64 (D.write i b).1) ∧ After w S d (D.write i b).2 w' := by
  obtain ⟨bs, bl, pv, nS, nL, DS, DL, A, h1, h2, h3, h4, _⟩ := h
  exact (write_ch A hn i a len cap b hin).mono fun e w' ⟨he, hc⟩ => ⟨he, After.of A h1 h2 h3 h4 hc⟩
theorem flush_dk (h : Dk w S d D) (hn : D.ops < 100000000000) :
    Calls Try.prog 16 #[.pointer (some ⟨d, 0, none⟩)] w fun e w' => e = .returned (.int .i64 D.flush.1) ∧ After w S d D.flush.2 w' := by
  obtain ⟨bs, bl, pv, nS, nL, DS, DL, A, h1, h2, h3, h4, _⟩ := h
  exact (flush_ch A (by omega)).mono fun e w' ⟨he, hc⟩ => ⟨he, After.of A h1 h2 h3 h4 hc⟩
theorem arm_dk (h : Dk w S d D) (n : Int) (hn : n ≤ 9223372036854775807) :
    Calls Try.prog 23 #[.pointer (some ⟨d, 0, none⟩), .int .i64 n] w fun e w' => e = .returned (.int .i64 (D.arm n).1) ∧ After w S d (D.arm n).2 w' := by
  obtain ⟨bs, bl, pv, nS, nL, DS, DL, A, h1, h2, h3, h4, _⟩ := h
  exact (arm_is A n hn).mono fun e w' ⟨he, hA, hg⟩ => ⟨he, After.of A h1 h2 h3 h4 ⟨pv, nS, nL, DS, DL, hA, fun _ hg => .inl hg, Keep.grown hg (.inl rfl)⟩⟩
theorem restart_dk (h : Dk w S d D) (hn : D.ops < 100000000000) (a : Option Addr) (k c : Nat) (keep : List Int) (hin : InI w a k c keep) (hk : k ≤ 17592186044416) :
    Calls Try.prog 15 #[.pointer (some ⟨d, 0, none⟩), .slice a k c] w fun e w' => e = .returned (.int .i64 (D.restart keep).1) ∧ After w S d (D.restart keep).2 w' := by
  obtain ⟨bs, bl, pv, nS, nL, DS, DL, A, h1, h2, h3, h4, _⟩ := h
  exact (restart_ch A (by omega) a k c keep hin hk).mono fun e w' ⟨he, hc⟩ => ⟨he, After.of A h1 h2 h3 h4 hc⟩
theorem clone_dk (h : Dk w S d D) (hn : D.ops < 100000000000) :
    Calls Try.prog 9 #[.pointer (some ⟨d, 0, none⟩)] w fun e w' => e = .returned (.pointer (some ⟨w.heap.size, 0, none⟩)) ∧ Dk w' (fun k => w.heap.size ≤ k ∧ k < w'.heap.size) w.heap.size D ∧ Below w.heap.size w w' := by
  obtain ⟨bs, bl, pv, nS, nL, DS, DL, A, _⟩ := h
  exact clone_is A hn
theorem read_dk (h : Dk w S d D) (hn : D.ops < 100000000000) (hd : D.down = false) (i : Nat) (hi : i < D.n) :
    Calls Try.prog 21 #[.pointer (some ⟨d, 0, none⟩), .int .i64 (i : Int)] w fun e w' => e = .returned (.tuple #[.slice (some ⟨w.heap.size, 0, none⟩) 256 256, .int .i64 0]) ∧ w' = w.alloc (.cells (U (settled D.sure D.pend i)).toArray 72) := by
  obtain ⟨bs, bl, pv, nS, nL, DS, DL, A, _⟩ := h
  exact read_ok A (by omega) hd i hi
theorem readbad_dk (h : Dk w S d D) (i : Int) (hb : D.down = true ∨ ¬ (0 ≤ i ∧ i < D.n)) :
    Calls Try.prog 21 #[.pointer (some ⟨d, 0, none⟩), .int .i64 i] w fun e w' => e = .returned (.tuple #[.slice none 0 0, .int .i64 (D.read i).2]) ∧ w' = w := by
  obtain ⟨bs, bl, pv, nS, nL, DS, DL, A, _⟩ := h
  exact read_bad A i hb
theorem down_dk (h : Dk w S d D) : Calls Try.prog 22 #[.pointer (some ⟨d, 0, none⟩)] w fun e w' => e = .returned (.bool D.down) ∧ w = w' := by
  obtain ⟨bs, bl, pv, nS, nL, DS, DL, A, _⟩ := h
  exact down_is A
theorem sectors_dk (h : Dk w S d D) : Calls Try.prog 25 #[.pointer (some ⟨d, 0, none⟩)] w fun e w' => e = .returned (.int .i64 (D.n : Int)) ∧ w = w' := by
  obtain ⟨bs, bl, pv, nS, nL, DS, DL, A, _⟩ := h
  exact sectors_is A
theorem ops_dk (h : Dk w S d D) : Calls Try.prog 26 #[.pointer (some ⟨d, 0, none⟩)] w fun e w' => e = .returned (.int .i64 (D.ops : Int)) ∧ w = w' := by
  obtain ⟨bs, bl, pv, nS, nL, DS, DL, A, _⟩ := h
  exact ops_is A
theorem Dk.lt (h : Dk w S d D) : ∀ k, S k → k < w.heap.size := by obtain ⟨bs, bl, pv, nS, nL, DS, DL, A, h1, h2, h3, h4, h5⟩ := h; exact h5
theorem Dk.self (h : Dk w S d D) : S d := by obtain ⟨bs, bl, pv, nS, nL, DS, DL, A, h1, _⟩ := h; exact h1
end

/-- a disk all of whose blocks lie from B on -/
def DkB (w : World) (B d : Nat) (D : Disk) : Prop := ∃ S, Dk w S d D ∧ ∀ k, S k → B ≤ k
theorem DkB.below {w w' : World} {B d : Nat} {D : Disk} (h : DkB w B d D) (hb : Below w.heap.size w w') : DkB w' B d D := by
  obtain ⟨S, h1, h2⟩ := h
  exact ⟨S, h1.below hb, h2⟩
theorem After.toB {w w' : World} {S : Nat → Prop} {B d : Nat} {D' : Disk} (h : After w S d D' w') (hS : ∀ k, S k → B ≤ k) (hB : B ≤ w.heap.size) : DkB w' B d D' ∧ Below B w w' := by
  obtain ⟨S', h1, h2, h3⟩ := h
  exact ⟨⟨S', h1, fun k hk => (h2 k hk).elim (hS k) (fun e => Nat.le_trans hB e)⟩, h3.toBelow hB hS⟩

/-- two disks side by side, from B on, apart -/
def Two (w : World) (B d : Nat) (D : Disk) (c : Nat) (C : Disk) : Prop := ∃ S T, Dk w S d D ∧ Dk w T c C ∧ (∀ k, S k → B ≤ k) ∧ (∀ k, T k → B ≤ k) ∧ ∀ k, S k → ¬ T k
theorem Two.below {w w' : World} {B d c : Nat} {D C : Disk} (h : Two w B d D c C) (hb : Below w.heap.size w w') : Two w' B d D c C := by
  obtain ⟨S, T, h1, h2, h3⟩ := h
  exact ⟨S, T, h1.below hb, h2.below hb, h3⟩
theorem Two.swap {w : World} {B d c : Nat} {D C : Disk} (h : Two w B d D c C) : Two w B c C d D := by
  obtain ⟨S, T, h1, h2, h3, h4, h5⟩ := h
  exact ⟨T, S, h2, h1, h4, h3, fun k hk hs => h5 k hs hk⟩
theorem Two.first {w : World} {B d c : Nat} {D C : Disk} (h : Two w B d D c C) : DkB w B d D := by
  obtain ⟨S, T, h1, h2, h3, h4, h5⟩ := h
  exact ⟨S, h1, h3⟩
/-- a call of the first one -/
theorem Two.call {w : World} {B d c : Nat} {D C D' : Disk} (h : Two w B d D c C) (hB : B ≤ w.heap.size) {f : Nat} {args : Array Value} {e0 : Ending} (hc : ∀ S, Dk w S d D → Calls Try.prog f args w fun e w' => e = e0 ∧ After w S d D' w') :
    Calls Try.prog f args w fun e w' => e = e0 ∧ Two w' B d D' c C ∧ Below B w w' := by
  obtain ⟨S, T, h1, h2, h3, h4, h5⟩ := h
  refine (hc S h1).mono fun e w' ⟨he, S', k1, k2, k3⟩ => ⟨he, ⟨S', T, k1, h2.keep k3 (fun k hk hs => h5 k hs hk), fun k hk => (k2 k hk).elim (h3 k) (fun e => Nat.le_trans hB e), h4, fun k hk ht => ?_⟩, k3.toBelow hB h3⟩
  rcases k2 k hk with h | h
  · exact h5 k h ht
  · have := h2.lt k ht; omega
/-- a clone beside its disk -/
theorem DkB.clone {w : World} {B d : Nat} {D : Disk} (h : DkB w B d D) (hB : B ≤ w.heap.size) (hn : D.ops < 100000000000) :
    Calls Try.prog 9 #[.pointer (some ⟨d, 0, none⟩)] w fun e w' => e = .returned (.pointer (some ⟨w.heap.size, 0, none⟩)) ∧ Two w' B d D w.heap.size D ∧ Below w.heap.size w w' := by
  obtain ⟨S, h1, h2⟩ := h
  refine (clone_dk h1 hn).mono fun e w' ⟨he, hc, hb⟩ => ⟨he, ⟨S, _, h1.below hb, hc, h2, fun k hk => Nat.le_trans hB hk.1, fun k hk ht => ?_⟩, hb⟩
  have := h1.lt k hk
  have := ht.1
  omega
#print axioms DkB.clone
end Go.Proofs.Ytmhdldhplhffcaa.Oct
