/-
  Layer 5 (disk): do: Flush.
-/
import Derived.Test.YtmhdldhplhffcaaBoth
namespace Go.Proofs.Ytmhdldhplhffcaa.Oct
open Go.RowKit Go.Lib

set_option maxRecDepth 100000 in
theorem do_flush {w : World} {S R : Nat → Prop} {d r : Nat} {D : Disk} (h : Both w S R d r D D) (hn : D.ops < 1000000000) (N : Int) (A : Option Addr) (L C : Nat) (sh : Bool) (KA : Option Addr) (KL KC : Nat) :
    Calls Try.prog 12 #[.pointer (some ⟨d, 0, none⟩), .pointer (some ⟨r, 0, none⟩), .agg #[.int .i64 1, .int .i64 N, .slice A L C, .bool sh, .slice KA KL KC]] w fun e w' => e = .returned (.bool true) ∧ BAfter w S R d r D.flush.2 D.flush.2 w' := by
  have hb : Below w.heap.size w (w.alloc (.cells #[.int .i64 1, .int .i64 N, .slice A L C, .bool sh, .slice KA KL KC] 33)) := (Below.refl _ w).alloc (Nat.le_refl _) _
  have H0 : Hid (Both (w.alloc (.cells #[.int .i64 1, .int .i64 N, .slice A L C, .bool sh, .slice KA KL KC] 33)) S R d r D D ∧ Below w.heap.size w (w.alloc (.cells #[.int .i64 1, .int .i64 N, .slice A L C, .bool sh, .slice KA KL KC] 33))) := ⟨h.below hb, hb⟩
  have HN : Hid (D.ops < 1000000000) := hn
  obtain ⟨e1, he1⟩ : ∃ e1, D.flush.1 = e1 := ⟨_, rfl⟩
  have HE : Hid (D.flush.1 = e1 ∧ D.flush.2.ops ≤ D.ops + 1) := ⟨he1, D.flush_ops.1⟩
  clear h hb hn he1
  go_enter Try.func12, Try.ntmps12
  go_wp2_with fail
  refine (flush_dk H0.out.1.dk (by have := HN.out; omega)).mono ?_
  rintro e w1 ⟨rfl, hA⟩
  have F1 : Hid (BAfter (w.alloc (.cells #[.int .i64 1, .int .i64 N, .slice A L C, .bool sh, .slice KA KL KC] 33)) S R d r D.flush.2 D w1) := BAfter.d H0.out.1 hA
  rw [HE.out.1]
  clear hA
  obtain ⟨S1, R1, hB1, hs1, hr1, hk1⟩ := F1.out
  have HB1 : Hid (Both w1 S1 R1 d r D.flush.2 D) := hB1
  have HK1 : Hid ((∀ k, S1 k → S k ∨ (w.alloc (.cells #[.int .i64 1, .int .i64 N, .slice A L C, .bool sh, .slice KA KL KC] 33)).heap.size ≤ k) ∧ (∀ k, R1 k → R k ∨ (w.alloc (.cells #[.int .i64 1, .int .i64 N, .slice A L C, .bool sh, .slice KA KL KC] 33)).heap.size ≤ k) ∧ Keep (fun k => S k ∨ R k) (w.alloc (.cells #[.int .i64 1, .int .i64 N, .slice A L C, .bool sh, .slice KA KL KC] 33)) w1) := ⟨hs1, hr1, hk1⟩
  clear hB1 hs1 hr1 hk1 F1
  go_wp2_with fail
  refine (rflush_dk HB1.out.rk HN.out).mono ?_
  rintro e w2 ⟨rfl, hA2⟩
  have F2 : Hid (BAfter w S R d r D.flush.2 D.flush.2 w2) := BAfter.first H0.out.2 (BAfter.two HK1.out.1 HK1.out.2.1 HK1.out.2.2 (BAfter.r HB1.out hA2))
  rw [HE.out.1]
  clear hA2 HK1 HB1
  go_wp2
  go_ret
  exact ⟨rfl, F2.out⟩
#print axioms do_flush
end Go.Proofs.Ytmhdldhplhffcaa.Oct
