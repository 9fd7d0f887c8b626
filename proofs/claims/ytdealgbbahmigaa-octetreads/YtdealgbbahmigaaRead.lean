/-
  Layer 1 (octet): the reader's inner calls: isMade, left, take.
-/
import Derived.Test.YtdealgbbahmigaaLives
import Derived.Deep.QuietTactic
import Derived.BigQuiet
import Derived.WalkSmall
namespace Go.Proofs.Ytdealgbbahmigaa.Oct
open Go.RowKit

theorem isMade_nil (w : World) : Calls Try.prog 25 #[.pointer none] w fun e w' => e = .returned (.bool false) ∧ w = w' := by
  go_enter Try.func25, Try.ntmps25
  go_wp2
  go_ret
  exact ⟨rfl, rfl⟩

theorem isMade_is (r : Nat) (b : Bool) (w : World) (hc : w.cell? ⟨r, 2, none⟩ = some (.bool b)) : Calls Try.prog 25 #[.pointer (some ⟨r, 0, none⟩)] w fun e w' => e = .returned (.bool b) ∧ w = w' := by
  go_enter Try.func25, Try.ntmps25
  go_wp2
  go_ret
  exact ⟨rfl, rfl⟩

theorem left_is (r k len cap : Nat) (a : Option Addr) (w : World) (h0 : w.cell? ⟨r, 0, none⟩ = some (.slice a len cap)) (h1 : w.cell? ⟨r, 1, none⟩ = some (.int .i64 (k : Int))) (hk : k ≤ len) (hl : len ≤ 140737488355328) :
    Calls Try.prog 28 #[.pointer (some ⟨r, 0, none⟩)] w fun e w' => e = .returned (.int .i64 ((len : Int) - (k : Int))) ∧ ∃ n, w' = w.drewN n := by
  go_enter Try.func28, Try.ntmps28
  go_wp2_with fail
  go_quiet (fail)
  go_wp2
  go_ret
  exact ⟨rfl, _, rfl⟩

/-- no reader: nil, or one that no call made -/
def NoRd (w : World) (p : Option Addr) : Prop := p = none ∨ ∃ r, p = some ⟨r, 0, none⟩ ∧ w.cell? ⟨r, 2, none⟩ = some (.bool false)

theorem isMade_no (p : Option Addr) (w : World) (h : NoRd w p) : Calls Try.prog 25 #[.pointer p] w fun e w' => e = .returned (.bool false) ∧ w = w' := by
  rcases h with rfl | ⟨r, rfl, hc⟩
  · exact isMade_nil w
  · exact isMade_is r false w hc

theorem uint_no (p : Option Addr) (w : World) (h : NoRd w p) : Calls Try.prog 15 #[.pointer p] w fun e w' => e = .returned (.tuple #[.int .u64 0, .int .i64 1]) ∧ w = w' := by
  have H : Hid (NoRd w p) := h
  clear h
  go_enter Try.func15, Try.ntmps15
  go_wp2_with (go_at_call 25; refine (isMade_no _ _ H.out).mono ?_; rintro e w' ⟨rfl, rfl⟩)
  go_ret2
  exact ⟨rfl, rfl⟩
theorem text_no (p : Option Addr) (most : Int) (w : World) (h : NoRd w p) : Calls Try.prog 17 #[.pointer p, .int .i64 most] w fun e w' => e = .returned (.tuple #[.string ⟨#[]⟩, .int .i64 1]) ∧ w = w' := by
  have H : Hid (NoRd w p) := h
  clear h
  go_enter Try.func17, Try.ntmps17
  go_wp2_with (go_at_call 25; refine (isMade_no _ _ H.out).mono ?_; rintro e w' ⟨rfl, rfl⟩)
  go_ret2
  exact ⟨rfl, rfl⟩
theorem byte_no (p : Option Addr) (w : World) (h : NoRd w p) : Calls Try.prog 19 #[.pointer p] w fun e w' => e = .returned (.tuple #[.int .u8 0, .int .i64 1]) ∧ w = w' := by
  have H : Hid (NoRd w p) := h
  clear h
  go_enter Try.func19, Try.ntmps19
  go_wp2_with (go_at_call 25; refine (isMade_no _ _ H.out).mono ?_; rintro e w' ⟨rfl, rfl⟩)
  go_ret2
  exact ⟨rfl, rfl⟩
theorem end_no (p : Option Addr) (w : World) (h : NoRd w p) : Calls Try.prog 20 #[.pointer p] w fun e w' => e = .returned (.int .i64 1) ∧ w = w' := by
  have H : Hid (NoRd w p) := h
  clear h
  go_enter Try.func20, Try.ntmps20
  go_wp2_with (go_at_call 25; refine (isMade_no _ _ H.out).mono ?_; rintro e w' ⟨rfl, rfl⟩)
  go_ret
  exact ⟨rfl, rfl⟩
theorem left_no (p : Option Addr) (w : World) (h : NoRd w p) : Calls Try.prog 21 #[.pointer p] w fun e w' => e = .returned (.int .i64 0) ∧ w = w' := by
  have H : Hid (NoRd w p) := h
  clear h
  go_enter Try.func21, Try.ntmps21
  go_wp2_with (go_at_call 25; refine (isMade_no _ _ H.out).mono ?_; rintro e w' ⟨rfl, rfl⟩)
  go_ret
  exact ⟨rfl, rfl⟩

/-- a reader that lies in blocks from B on: its bytes, its place -/
structure RdAt (B : Nat) (w : World) (r g cap : Nat) (l : List UInt8) (k : Nat) : Prop where
  hr : B ≤ r
  blk : w.heap[r]? = some (.cells #[.slice (some ⟨g, 0, none⟩) l.length cap, .int .i64 (k : Int), .bool true] 53 (0, 0))
  own : Own 5 B w (.slice (some ⟨g, 0, none⟩) l.length cap) l
  len : l.length ≤ 140737488355328
  at_ : k ≤ l.length

section
variable {B : Nat} {w : World} {r g cap : Nat} {l : List UInt8} {k : Nat}
theorem RdAt.c0 (h : RdAt B w r g cap l k) : w.cell? ⟨r, 0, none⟩ = some (.slice (some ⟨g, 0, none⟩) l.length cap) := by simp [World.cell?, h.blk]
theorem RdAt.c1 (h : RdAt B w r g cap l k) : w.cell? ⟨r, 1, none⟩ = some (.int .i64 (k : Int)) := by simp [World.cell?, h.blk]
theorem RdAt.c2 (h : RdAt B w r g cap l k) : w.cell? ⟨r, 2, none⟩ = some (.bool true) := by simp [World.cell?, h.blk]
theorem RdAt.f1 (h : RdAt B w r g cap l k) : w.frozen? ⟨r, 1, none⟩ = false := by simp [World.frozen?, h.blk]
theorem RdAt.drewN (h : RdAt B w r g cap l k) (n : Nat) : RdAt B (w.drewN n) r g cap l k := ⟨h.hr, h.blk, h.own, h.len, h.at_⟩
theorem RdAt.ne (h : RdAt B w r g cap l k) : g ≠ r := by
  rintro rfl
  rcases h.own.2 with h2 | ⟨g', cap', cur, e1, _, hg, _⟩
  · simp at h2
  · simp only [Value.slice.injEq, Option.some.injEq, Addr.mk.injEq] at e1
    obtain ⟨⟨rfl, _⟩, _⟩ := e1
    have := h.blk
    rw [hg] at this
    simp at this
theorem RdAt.capLe (h : RdAt B w r g cap l k) : l.length ≤ cap ∧ cap ≤ maxLen := by
  rcases h.own.2 with h2 | ⟨g', cap', cur, e1, _, _, e3, e4, _⟩
  · simp at h2
  · simp only [Value.slice.injEq] at e1
    obtain ⟨_, _, rfl⟩ := e1
    exact ⟨e3, e4⟩
theorem RdAt.byte (h : RdAt B w r g cap l k) (i : Nat) (hi : i < l.length) : w.cell? ⟨g, i, none⟩ = some (.int .u8 (l[i].toNat : Int)) := by
  have := World.ownsRow.cellAt h.own i (by omega)
  rw [this, U_get l i hi]
theorem RdAt.moved (h : RdAt B w r g cap l k) (k' : Nat) (hk : k' ≤ l.length) : RdAt B (w.setCell ⟨r, 1, none⟩ (.int .i64 (k' : Int))) r g cap l k' := by
  refine ⟨h.hr, ?_, ?_, h.len, hk⟩
  · simp only [World.setCell, Array.getElem?_modify]
    rw [if_pos trivial, h.blk]
    simp
  · exact ownsRow_setCell_other h.own (by simp [Value.ownBlock]; exact h.ne) _
theorem RdAt.below {B' : Nat} {w' : World} (h : RdAt B w r g cap l k) (hb : Below B' w w') (hB : w.heap.size ≤ B') : RdAt B w' r g cap l k :=
  ⟨h.hr, (hb.block r (Nat.lt_of_lt_of_le (lt_of_block h.blk) hB)).trans h.blk, h.own.below hb hB, h.len, h.at_⟩
theorem RdAt.mono {B' : Nat} (h : RdAt B w r g cap l k) (hB : B' ≤ B) : RdAt B' w r g cap l k := ⟨Nat.le_trans hB h.hr, h.blk, h.own.mono hB, h.len, h.at_⟩
end

set_option maxHeartbeats 400000 in
theorem over_is (a : Option Addr) (len cap : Nat) (l : List UInt8) (w : World) (hin : In w a len cap l) :
    Calls Try.prog 14 #[.slice a len cap] w fun e w' => ∃ r g, e = .returned (.pointer (some ⟨r, 0, none⟩)) ∧ RdAt w.heap.size w' r g len l 0 ∧ Below w.heap.size w w' := by
  have HIN : Hid (In w a len cap l) := hin
  have HLEN : Hid (l.length = len) := hin.1
  have hl := hin.2.2.1
  clear hin
  go_enter Try.func14, Try.ntmps14
  go_wp2_with (go_at_call 23; refine (copyWithRoom a len cap l 0 _ HIN.out (by omega) (by omega)).mono ?_; rw [Int.toNat_zero, Nat.add_zero]; rintro e w1 ⟨rfl, hown1, hb1⟩)
  go_ret
  have e := HLEN.out
  subst e
  refine ⟨_, _, rfl, ⟨hb1.size, heap_alloc_new w1 _, ?_, hl, Nat.zero_le _⟩, hb1.alloc hb1.size _⟩
  exact World.ownsRow.alloc hown1 _

theorem end_is {B r g cap k : Nat} {l : List UInt8} {w : World} (h : RdAt B w r g cap l k) : Calls Try.prog 20 #[.pointer (some ⟨r, 0, none⟩)] w fun e w' => e = .returned (.int .i64 (if k < l.length then 12 else 0)) ∧ ∃ n, w' = w.drewN n := by
  have hk := h.at_
  have hl := h.len
  have H : Hid (RdAt B w r g cap l k) := h
  clear h
  by_cases hlt : k < l.length
  · rw [if_pos hlt]
    go_enter Try.func20, Try.ntmps20
    go_wp2_with (first | (go_at_call 25; refine (isMade_is r true _ H.out.c2).mono ?_; rintro e w' ⟨rfl, rfl⟩) | (go_at_call 28; refine (left_is r k _ cap _ _ H.out.c0 H.out.c1 hk hl).mono ?_; rintro e w' ⟨rfl, n, rfl⟩))
    go_ret
    exact ⟨rfl, _, rfl⟩
  · rw [if_neg hlt]
    go_enter Try.func20, Try.ntmps20
    go_wp2_with (first | (go_at_call 25; refine (isMade_is r true _ H.out.c2).mono ?_; rintro e w' ⟨rfl, rfl⟩) | (go_at_call 28; refine (left_is r k _ cap _ _ H.out.c0 H.out.c1 hk hl).mono ?_; rintro e w' ⟨rfl, n, rfl⟩))
    go_ret
    exact ⟨rfl, _, rfl⟩

theorem leftIs {B r g cap k : Nat} {l : List UInt8} {w : World} (h : RdAt B w r g cap l k) : Calls Try.prog 21 #[.pointer (some ⟨r, 0, none⟩)] w fun e w' => e = .returned (.int .i64 ((l.length : Int) - (k : Int))) ∧ ∃ n, w' = w.drewN n := by
  have hk := h.at_
  have hl := h.len
  have H : Hid (RdAt B w r g cap l k) := h
  clear h
  go_enter Try.func21, Try.ntmps21
  go_wp2_with (first | (go_at_call 25; refine (isMade_is r true _ H.out.c2).mono ?_; rintro e w' ⟨rfl, rfl⟩) | (go_at_call 28; refine (left_is r k _ cap _ _ H.out.c0 H.out.c1 hk hl).mono ?_; rintro e w' ⟨rfl, n, rfl⟩))
  go_ret
  exact ⟨rfl, _, rfl⟩

set_option maxHeartbeats 400000 in
theorem take_is (r k n g len cap : Nat) (w : World) (h0 : w.cell? ⟨r, 0, none⟩ = some (.slice (some ⟨g, 0, none⟩) len cap)) (h1 : w.cell? ⟨r, 1, none⟩ = some (.int .i64 (k : Int))) (hf : w.frozen? ⟨r, 1, none⟩ = false) (hk : k + n ≤ len) (hc : len ≤ cap) (hl : len ≤ 140737488355328) :
    Calls Try.prog 27 #[.pointer (some ⟨r, 0, none⟩), .int .i64 (n : Int)] w fun e w' => (∃ o, e = .returned (.slice (some ⟨g, o, none⟩) n (cap - k)) ∧ (0 < n → o = k)) ∧ ∃ m, w' = (w.setCell ⟨r, 1, none⟩ (.int .i64 ((k : Int) + (n : Int)))).drewN m := by
  have q1 : (0 : Int) ≤ (k : Int) := by omega
  have q2 : (k : Int) ≤ (k : Int) + (n : Int) := by omega
  have q3 : (k : Int) + (n : Int) ≤ (cap : Int) := by omega
  go_enter Try.func27, Try.ntmps27
  go_wp2_with fail
  go_quiet (fail)
  go_wp2
  · go_ret
    exact ⟨⟨0, by simp, by omega⟩, _, rfl⟩
  · go_ret
    exact ⟨⟨k, by simp, fun _ => rfl⟩, _, rfl⟩

#print axioms take_is
#print axioms over_is

end Go.Proofs.Ytdealgbbahmigaa.Oct
