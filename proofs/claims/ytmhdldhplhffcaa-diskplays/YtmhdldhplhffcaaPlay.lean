/-
  Layer 5 (disk): an act on a disk and on the reference's, and their clones.
-/
import Derived.Test.YtmhdldhplhffcaaDo4
import Derived.Test.YtmhdldhplhffcaaLives
namespace Go.Proofs.Ytmhdldhplhffcaa.Oct
open Go.RowKit Go.Lib

theorem do_is {w : World} {S R : Nat → Prop} {d r : Nat} {D : Disk} (h : Both w S R d r D D) (hn : D.ops < 1000000000) (x : ActV) (A : Option Addr) (L C : Nat) (KA : Option Addr) (KL KC : Nat) (hin : In w A L C x.bytes) (hik : InI w KA KL KC x.keep) (hk : KL ≤ 17592186044416) (hN : x.n ≤ 9223372036854775807) (hne : 0 < KL → ∀ b off, KA = some ⟨b, off, none⟩ → ¬ S b ∧ ¬ R b) :
    Calls Try.prog 12 #[.pointer (some ⟨d, 0, none⟩), .pointer (some ⟨r, 0, none⟩), .agg (ac x A L C KA KL KC).toArray] w fun e w' => e = .returned (.bool true) ∧ BAfter w S R d r (D.act x) (D.act x) w' := by
  show Calls _ _ #[_, _, .agg #[.int .i64 x.kind, .int .i64 x.n, .slice A L C, .bool x.short, .slice KA KL KC]] _ _
  unfold Disk.act
  by_cases h0 : x.kind = 0
  · rw [if_pos h0, h0]
    exact do_write h hn x.n A L C x.short KA KL KC x.bytes hin
  · rw [if_neg h0]
    by_cases h1 : x.kind = 1
    · rw [if_pos h1, h1]
      exact do_flush h hn x.n A L C x.short KA KL KC
    · rw [if_neg h1]
      by_cases h2 : x.kind = 2
      · rw [if_pos h2, h2]
        exact do_arm h x.n hN A L C x.short KA KL KC
      · rw [if_neg h2]
        by_cases h3 : x.kind = 3
        · rw [if_pos h3, h3]
          exact do_restart h hn x.n A L C x.short KA KL KC x.keep hik hk hne
        · rw [if_neg h3]
          exact do_read h hn x.kind x.n h0 h1 h2 h3 A L C x.short KA KL KC
theorem Disk.act_ops (D : Disk) (x : ActV) : (D.act x).ops ≤ D.ops + 1 := by
  unfold Disk.act
  split
  · exact (Disk.write_ops _ _ _).1
  · split
    · exact (Disk.flush_ops _).1
    · split
      · rw [(Disk.arm_ops _ _).1]; omega
      · split
        · rw [(Disk.restart_ops _ _).1]; omega
        · omega
/-- an act's parts, of memory below B -/
structure Parts (w : World) (B : Nat) (x : ActV) (A : Option Addr) (L C : Nat) (KA : Option Addr) (KL KC : Nat) : Prop where
  bytes : In w A L C x.bytes
  keep : InI w KA KL KC x.keep
  few : KL ≤ 17592186044416
  n : x.n ≤ 9223372036854775807
  old : 0 < KL → ∀ b off, KA = some ⟨b, off, none⟩ → b < B

/-- what the law's loop keeps -/
def PInv (w : World) (t d r : Nat) (wr : World) : Prop := ∃ S R D, Both wr S R d r D D ∧ D.ops ≤ t ∧ (∀ k, S k ∨ R k → w.heap.size ≤ k) ∧ Below w.heap.size w wr
theorem PInv.below {w wr w' : World} {t d r : Nat} (h : PInv w t d r wr) (hb : Below wr.heap.size wr w') : PInv w t d r w' := by
  obtain ⟨S, R, D, h1, h2, h3, h4⟩ := h
  exact ⟨S, R, D, h1.below hb, h2, h3, h4.trans (hb.mono h4.size)⟩
theorem PInv.base {w wr : World} {t d r : Nat} (h : PInv w t d r wr) : Below w.heap.size w wr := by
  obtain ⟨S, R, D, h1, h2, h3, h4⟩ := h
  exact h4
theorem PInv.more {w wr : World} {t t' d r : Nat} (h : PInv w t d r wr) (ht : t ≤ t') : PInv w t' d r wr := by
  obtain ⟨S, R, D, h1, h2, h3, h4⟩ := h
  exact ⟨S, R, D, h1, Nat.le_trans h2 ht, h3, h4⟩
theorem PInv.same {w wr : World} {t d r : Nat} (h : PInv w t d r wr) (ht : t ≤ 1000) :
    Calls Try.prog 11 #[.pointer (some ⟨d, 0, none⟩), .pointer (some ⟨r, 0, none⟩)] wr fun e w' => e = .returned (.bool true) ∧ PInv w t d r w' := by
  obtain ⟨S, R, D, h1, h2, h3, h4⟩ := id h
  exact (same_is h1.dk h1.rk (by omega)).mono fun e w' ⟨he, hb⟩ => ⟨he, h.below hb⟩
theorem PInv.act {w wr : World} {t d r : Nat} (h : PInv w t d r wr) (ht : t ≤ 1000) {x : ActV} {A : Option Addr} {L C : Nat} {KA : Option Addr} {KL KC : Nat} (hx : Parts wr w.heap.size x A L C KA KL KC) :
    Calls Try.prog 12 #[.pointer (some ⟨d, 0, none⟩), .pointer (some ⟨r, 0, none⟩), .agg (ac x A L C KA KL KC).toArray] wr fun e w' => e = .returned (.bool true) ∧ PInv w (t + 1) d r w' := by
  obtain ⟨S, R, D, h1, h2, h3, h4⟩ := id h
  refine (do_is h1 (by omega) x A L C KA KL KC hx.bytes hx.keep hx.few hx.n (fun hp b off e => ?_)).mono fun e w' ⟨he, S', R', k1, k2, k3, k4⟩ => ⟨he, S', R', D.act x, k1, ?_, fun k hk => ?_, h4.trans (k4.toBelow h4.size h3)⟩
  · have := hx.old hp b off e
    exact ⟨fun hs => by have := h3 b (.inl hs); omega, fun hs => by have := h3 b (.inr hs); omega⟩
  · have := D.act_ops x; omega
  · have := h4.size
    rcases hk with hk | hk
    · rcases k2 k hk with e | e
      · exact h3 k (.inl e)
      · omega
    · rcases k3 k hk with e | e
      · exact h3 k (.inr e)
      · omega
/-- a pair and its clones -/
def PTwo (w : World) (t m d r c o : Nat) (wr : World) : Prop := ∃ S R T Q D E, Both wr S R d r D D ∧ Both wr T Q c o E E ∧ D.ops ≤ m ∧ E.ops ≤ t ∧ (∀ k, S k ∨ R k → ¬ (T k ∨ Q k)) ∧ (∀ k, S k ∨ R k → w.heap.size ≤ k) ∧ (∀ k, T k ∨ Q k → w.heap.size ≤ k) ∧ Below w.heap.size w wr
theorem PTwo.below {w wr w' : World} {t m d r c o : Nat} (h : PTwo w t m d r c o wr) (hb : Below wr.heap.size wr w') : PTwo w t m d r c o w' := by
  obtain ⟨S, R, T, Q, D, E, h1, h2, h3, h4, h5, h6, h7, h8⟩ := h
  exact ⟨S, R, T, Q, D, E, h1.below hb, h2.below hb, h3, h4, h5, h6, h7, h8.trans (hb.mono h8.size)⟩
theorem PTwo.sameC {w wr : World} {t m d r c o : Nat} (h : PTwo w t m d r c o wr) (ht : t ≤ 1000) :
    Calls Try.prog 11 #[.pointer (some ⟨c, 0, none⟩), .pointer (some ⟨o, 0, none⟩)] wr fun e w' => e = .returned (.bool true) ∧ PTwo w t m d r c o w' := by
  obtain ⟨S, R, T, Q, D, E, h1, h2, h3, h4, h5, h6, h7, h8⟩ := id h
  exact (same_is h2.dk h2.rk (by omega)).mono fun e w' ⟨he, hb⟩ => ⟨he, h.below hb⟩
theorem PTwo.sameD {w wr : World} {t m d r c o : Nat} (h : PTwo w t m d r c o wr) (ht : m ≤ 1000) :
    Calls Try.prog 11 #[.pointer (some ⟨d, 0, none⟩), .pointer (some ⟨r, 0, none⟩)] wr fun e w' => e = .returned (.bool true) ∧ PTwo w t m d r c o w' := by
  obtain ⟨S, R, T, Q, D, E, h1, h2, h3, h4, h5, h6, h7, h8⟩ := id h
  exact (same_is h1.dk h1.rk (by omega)).mono fun e w' ⟨he, hb⟩ => ⟨he, h.below hb⟩
theorem PTwo.act {w wr : World} {t m d r c o : Nat} (h : PTwo w t m d r c o wr) (ht : m ≤ 1000) {x : ActV} {A : Option Addr} {L C : Nat} {KA : Option Addr} {KL KC : Nat} (hx : Parts wr w.heap.size x A L C KA KL KC) :
    Calls Try.prog 12 #[.pointer (some ⟨d, 0, none⟩), .pointer (some ⟨r, 0, none⟩), .agg (ac x A L C KA KL KC).toArray] wr fun e w' => e = .returned (.bool true) ∧ PTwo w t (m + 1) d r c o w' := by
  obtain ⟨S, R, T, Q, D, E, h1, h2, h3, h4, h5, h6, h7, h8⟩ := h
  refine (do_is h1 (by omega) x A L C KA KL KC hx.bytes hx.keep hx.few hx.n (fun hp b off e => ?_)).mono fun e w' ⟨he, S', R', k1, k2, k3, k4⟩ => ⟨he, S', R', T, Q, D.act x, E, k1, h2.keep k4 (fun k hT hS => h5 k hS hT), ?_, h4, fun k hk hT => ?_, fun k hk => ?_, h7, h8.trans (k4.toBelow h8.size h6)⟩
  · have := hx.old hp b off e
    exact ⟨fun hs => by have := h6 b (.inl hs); omega, fun hs => by have := h6 b (.inr hs); omega⟩
  · have := D.act_ops x; omega
  · have hlt : k < wr.heap.size := hT.elim (h2.dk.lt k) (h2.rk.lt k)
    rcases hk with hk | hk
    · rcases k2 k hk with e | e
      · exact h5 k (.inl e) hT
      · omega
    · rcases k3 k hk with e | e
      · exact h5 k (.inr e) hT
      · omega
  · have := h8.size
    rcases hk with hk | hk
    · rcases k2 k hk with e | e
      · exact h6 k (.inl e)
      · omega
    · rcases k3 k hk with e | e
      · exact h6 k (.inr e)
      · omega
theorem PTwo.drop {w wr : World} {t m d r c o : Nat} (h : PTwo w t m d r c o wr) : PInv w t c o wr := by
  obtain ⟨S, R, T, Q, D, E, h1, h2, h3, h4, h5, h6, h7, h8⟩ := h
  exact ⟨T, Q, E, h2, h4, h7, h8⟩
/-- the disk's clone alone -/
def POne (w : World) (t d r c : Nat) (wr : World) : Prop := ∃ S R T D, Both wr S R d r D D ∧ Dk wr T c D ∧ D.ops ≤ t ∧ (∀ k, S k ∨ R k → ¬ T k) ∧ (∀ k, S k ∨ R k → w.heap.size ≤ k) ∧ (∀ k, T k → w.heap.size ≤ k) ∧ Below w.heap.size w wr
theorem PInv.clone {w wr : World} {t d r : Nat} (h : PInv w t d r wr) (ht : t ≤ 1000) :
    Calls Try.prog 9 #[.pointer (some ⟨d, 0, none⟩)] wr fun e w' => e = .returned (.pointer (some ⟨wr.heap.size, 0, none⟩)) ∧ POne w t d r wr.heap.size w' := by
  obtain ⟨S, R, D, h1, h2, h3, h4⟩ := h
  refine (clone_dk h1.dk (by omega)).mono fun e w' ⟨he, hc, hb⟩ => ⟨he, S, R, _, D, h1.below hb, hc, h2, fun k hk hT => ?_, h3, fun k hT => ?_, h4.trans (hb.mono h4.size)⟩
  · have h5 : k < wr.heap.size := hk.elim (h1.dk.lt k) (h1.rk.lt k)
    have := hT.1
    omega
  · have := hT.1
    have := h4.size
    omega
theorem POne.clone {w wr : World} {t d r c : Nat} (h : POne w t d r c wr) (ht : t ≤ 1000) :
    Calls Try.prog 10 #[.pointer (some ⟨r, 0, none⟩)] wr fun e w' => e = .returned (.pointer (some ⟨wr.heap.size, 0, none⟩)) ∧ PTwo w t t d r c wr.heap.size w' := by
  obtain ⟨S, R, T, D, h1, h2, h3, h4, h5, h6, h7⟩ := h
  refine (rclone_dk h1.rk (by omega)).mono fun e w' ⟨he, hc, hb⟩ => ⟨he, S, R, T, _, D, D, h1.below hb, ⟨h2.below hb, hc, fun k hT hQ => ?_⟩, h3, h3, fun k hk hT => ?_, h5, fun k hT => ?_, h7.trans (hb.mono h7.size)⟩
  · have := h2.lt k hT
    have := hQ.1
    omega
  · rcases hT with hT | hT
    · exact h4 k hk hT
    · have h8 : k < wr.heap.size := hk.elim (h1.dk.lt k) (h1.rk.lt k)
      have := hT.1
      omega
  · rcases hT with hT | hT
    · exact h6 k hT
    · have := hT.1
      have := h7.size
      omega
/-- the parts of an act that came in -/
theorem act_parts {w wr : World} {b off : Nat} {x : ActV} (h : ActAt w b off x) (hb : Below w.heap.size w wr) (hl : b < w.heap.size) : ∃ A L C KA KL KC, wr.rangeAt b off (ac x A L C KA KL KC) ∧ Parts wr w.heap.size x A L C KA KL KC ∧ wr.cell? ⟨b, off, none⟩ = some (.int .i64 x.kind) := by
  obtain ⟨A, L, C, KA, KL, KC, h1, h2, h3, h4, h5⟩ := act_range h
  have hr : wr.rangeAt b off (ac x A L C KA KL KC) := fun j v hj => (hb.cell (p := ⟨b, off + j, none⟩) hl).trans (h1 j v hj)
  refine ⟨A, L, C, KA, KL, KC, hr, ⟨h2.below hb, h3.below hb, h4, h5.2, fun hp b' off' e => ?_⟩, ?_⟩
  · obtain ⟨b2, off2, e2, hlt, _⟩ := h3.2.2 hp
    rw [e] at e2
    cases e2
    exact hlt
  · exact hr 0 _ rfl
/-- the act that writes beside a clone -/
def xAct : ActV := ⟨0, 0, [120], false, []⟩
theorem xAct_parts (w W : World) : Parts (W.alloc (.cells #[.int .u8 120] 5 (1, 2))) w.heap.size xAct (some ⟨W.heap.size, 0, none⟩) 1 1 none 0 0 := by
  refine ⟨⟨rfl, Nat.le_refl _, by omega, by simp, fun _ => ⟨W.heap.size, 0, rfl, by simp, fun i c hc => ?_⟩⟩, InI.none _, by omega, by show (0 : Int) ≤ _; omega, fun h => absurd h (by omega)⟩
  have hlt : i < 1 := (List.getElem?_eq_some_iff.1 hc).1
  obtain rfl : i = 0 := by omega
  have e : (120 : UInt8) = c := by simpa [xAct] using hc
  subst e
  exact (World.cell?_alloc_mark W #[.int .u8 120] 5 (1, 2) 0).trans rfl
#print axioms PTwo.act
#print axioms xAct_parts
end Go.Proofs.Ytmhdldhplhffcaa.Oct
