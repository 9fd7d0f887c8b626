/-
  Layer 5 (disk): do: Arm, Restart, Read.
-/
import Derived.Test.YtmhdldhplhffcaaDoReg
import Derived.Test.YtmhdldhplhffcaaDo1
namespace Go.Proofs.Ytmhdldhplhffcaa.Oct
open Go.RowKit Go.Lib

set_option maxRecDepth 100000 in
theorem do_arm {w : World} {S R : Nat → Prop} {d r : Nat} {D : Disk} (h : Both w S R d r D D) (N : Int) (hN : N ≤ 9223372036854775807) (A : Option Addr) (L C : Nat) (sh : Bool) (KA : Option Addr) (KL KC : Nat) :
    Calls Try.prog 12 #[.pointer (some ⟨d, 0, none⟩), .pointer (some ⟨r, 0, none⟩), .agg #[.int .i64 2, .int .i64 N, .slice A L C, .bool sh, .slice KA KL KC]] w fun e w' => e = .returned (.bool true) ∧ BAfter w S R d r (D.arm N).2 (D.arm N).2 w' := by
  have hb : Below w.heap.size w (w.alloc (.cells #[.int .i64 2, .int .i64 N, .slice A L C, .bool sh, .slice KA KL KC] 33)) := (Below.refl _ w).alloc (Nat.le_refl _) _
  have H0 : Hid (Both (w.alloc (.cells #[.int .i64 2, .int .i64 N, .slice A L C, .bool sh, .slice KA KL KC] 33)) S R d r D D ∧ Below w.heap.size w (w.alloc (.cells #[.int .i64 2, .int .i64 N, .slice A L C, .bool sh, .slice KA KL KC] 33))) := ⟨h.below hb, hb⟩
  have HX : Hid (Blk (w.alloc (.cells #[.int .i64 2, .int .i64 N, .slice A L C, .bool sh, .slice KA KL KC] 33)) w.heap.size 33 [.int .i64 2, .int .i64 N, .slice A L C, .bool sh, .slice KA KL KC] ∧ ¬ S w.heap.size ∧ ¬ R w.heap.size) := ⟨by simpa using Blk.new w #[.int .i64 2, .int .i64 N, .slice A L C, .bool sh, .slice KA KL KC] 33, fun e => by have := h.dk.lt _ e; omega, fun e => by have := h.rk.lt _ e; omega⟩
  have HN : Hid (N ≤ 9223372036854775807) := hN
  clear h hb hN
  go_enter Try.func12, Try.ntmps12
  go_wp2
  refine do_region18 (D := D) (n := N) H0.out.1 HX ⟨rfl, HN.out⟩ ?_
  intro V hV
  have F2 : Hid (BAfter w S R d r (D.arm N).2 (D.arm N).2 V) := BAfter.first H0.out.2 hV
  clear hV
  go_wp2
  go_ret
  exact ⟨rfl, F2.out⟩
#print axioms do_arm
set_option maxRecDepth 100000 in
theorem do_restart {w : World} {S R : Nat → Prop} {d r : Nat} {D : Disk} (h : Both w S R d r D D) (hn : D.ops < 1000000000) (N : Int) (A : Option Addr) (L C : Nat) (sh : Bool) (KA : Option Addr) (KL KC : Nat) (keep : List Int) (hin : InI w KA KL KC keep) (hk : KL ≤ 17592186044416) (hne : 0 < KL → ∀ b off, KA = some ⟨b, off, none⟩ → ¬ S b ∧ ¬ R b) :
    Calls Try.prog 12 #[.pointer (some ⟨d, 0, none⟩), .pointer (some ⟨r, 0, none⟩), .agg #[.int .i64 3, .int .i64 N, .slice A L C, .bool sh, .slice KA KL KC]] w fun e w' => e = .returned (.bool true) ∧ BAfter w S R d r (D.restart keep).2 (D.restart keep).2 w' := by
  have hb : Below w.heap.size w (w.alloc (.cells #[.int .i64 3, .int .i64 N, .slice A L C, .bool sh, .slice KA KL KC] 33)) := (Below.refl _ w).alloc (Nat.le_refl _) _
  have H0 : Hid (Both (w.alloc (.cells #[.int .i64 3, .int .i64 N, .slice A L C, .bool sh, .slice KA KL KC] 33)) S R d r D D ∧ Below w.heap.size w (w.alloc (.cells #[.int .i64 3, .int .i64 N, .slice A L C, .bool sh, .slice KA KL KC] 33))) := ⟨h.below hb, hb⟩
  have HX : Hid (Blk (w.alloc (.cells #[.int .i64 3, .int .i64 N, .slice A L C, .bool sh, .slice KA KL KC] 33)) w.heap.size 33 [.int .i64 3, .int .i64 N, .slice A L C, .bool sh, .slice KA KL KC] ∧ ¬ S w.heap.size ∧ ¬ R w.heap.size) := ⟨by simpa using Blk.new w #[.int .i64 3, .int .i64 N, .slice A L C, .bool sh, .slice KA KL KC] 33, fun e => by have := h.dk.lt _ e; omega, fun e => by have := h.rk.lt _ e; omega⟩
  have HN : Hid (D.ops < 1000000000 ∧ KL ≤ 17592186044416) := ⟨hn, hk⟩
  have HIN : Hid (InI (w.alloc (.cells #[.int .i64 3, .int .i64 N, .slice A L C, .bool sh, .slice KA KL KC] 33)) KA KL KC keep ∧ (0 < KL → ∀ b off, KA = some ⟨b, off, none⟩ → ¬ S b ∧ ¬ R b)) := ⟨hin.below hb, hne⟩
  clear h hb hn hin hne hk
  go_enter Try.func12, Try.ntmps12
  go_wp2
  refine do_region20 (D := D) (keep := keep) H0.out.1 HX HN.out.1 ⟨rfl, HN.out.2⟩ HIN ?_
  intro a4 c4 V hV
  have F2 : Hid (BAfter w S R d r (D.restart keep).2 (D.restart keep).2 V) := BAfter.first H0.out.2 hV
  clear hV
  go_wp2
  go_ret
  exact ⟨rfl, F2.out⟩
#print axioms do_restart
end Go.Proofs.Ytmhdldhplhffcaa.Oct
