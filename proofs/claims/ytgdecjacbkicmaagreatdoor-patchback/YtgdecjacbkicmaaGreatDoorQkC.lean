/-
  Layer 1 (octet): the reader's inner calls: isMade, left, take.
  Layer 1 (octet): a number is read as the document says.
  Layer 1 (octet): a reader's Uint, Text and Byte tell what stands at its place, or the first thing that is wrong, and go over what they read.
-/
import Derived.Test.YtgdecjacbkicmaaGreatDoorOPut
import Derived.Deep.QuietTactic
import Derived.BigQuiet
import Derived.WalkSmall
/- Layer 1 (octet): the reader's inner calls: isMade, left, take. -/
namespace Go.Proofs.YtgdecjacbkicmaaGreatDoor.Oct
open Go.RowKit
set_option maxRecDepth 100000

theorem isMade_nil (w : World) : Calls Tryz.prog 55 #[.pointer none] w fun e w' => e = .returned (.bool false) ∧ w = w' := by
  go_enter Tryz.func55, Tryz.ntmps55
  go_wp2
  go_ret
  exact ⟨rfl, rfl⟩

theorem isMade_is (r : Nat) (b : Bool) (w : World) (hc : w.cell? ⟨r, 2, none⟩ = some (.bool b)) : Calls Tryz.prog 55 #[.pointer (some ⟨r, 0, none⟩)] w fun e w' => e = .returned (.bool b) ∧ w = w' := by
  go_enter Tryz.func55, Tryz.ntmps55
  go_wp2
  go_ret
  exact ⟨rfl, rfl⟩

theorem left_is (r k len cap : Nat) (a : Option Addr) (w : World) (h0 : w.cell? ⟨r, 0, none⟩ = some (.slice a len cap)) (h1 : w.cell? ⟨r, 1, none⟩ = some (.int .i64 (k : Int))) (hk : k ≤ len) (hl : len ≤ 140737488355328) :
    Calls Tryz.prog 56 #[.pointer (some ⟨r, 0, none⟩)] w fun e w' => e = .returned (.int .i64 ((len : Int) - (k : Int))) ∧ ∃ n, w' = w.drewN n := by
  go_enter Tryz.func56, Tryz.ntmps56
  go_wp2_with fail
  go_quiet (fail)
  go_wp2
  go_ret
  exact ⟨rfl, _, rfl⟩

/-- no reader: nil, or one that no call made -/
def NoRd (w : World) (p : Option Addr) : Prop := p = none ∨ ∃ r, p = some ⟨r, 0, none⟩ ∧ w.cell? ⟨r, 2, none⟩ = some (.bool false)

theorem isMade_no (p : Option Addr) (w : World) (h : NoRd w p) : Calls Tryz.prog 55 #[.pointer p] w fun e w' => e = .returned (.bool false) ∧ w = w' := by
  rcases h with rfl | ⟨r, rfl, hc⟩
  · exact isMade_nil w
  · exact isMade_is r false w hc

theorem uint_no (p : Option Addr) (w : World) (h : NoRd w p) : Calls Tryz.prog 80 #[.pointer p] w fun e w' => e = .returned (.tuple #[.int .u64 0, .int .i64 1]) ∧ w = w' := by
  have H : Hid (NoRd w p) := h
  clear h
  go_enter Tryz.func80, Tryz.ntmps80
  go_wp2_with (go_at_call 55; refine (isMade_no _ _ H.out).mono ?_; rintro e w' ⟨rfl, rfl⟩)
  go_ret2
  exact ⟨rfl, rfl⟩
theorem text_no (p : Option Addr) (most : Int) (w : World) (h : NoRd w p) : Calls Tryz.prog 78 #[.pointer p, .int .i64 most] w fun e w' => e = .returned (.tuple #[.string ⟨#[]⟩, .int .i64 1]) ∧ w = w' := by
  have H : Hid (NoRd w p) := h
  clear h
  go_enter Tryz.func78, Tryz.ntmps78
  go_wp2_with (go_at_call 55; refine (isMade_no _ _ H.out).mono ?_; rintro e w' ⟨rfl, rfl⟩)
  go_ret2
  exact ⟨rfl, rfl⟩
theorem byte_no (p : Option Addr) (w : World) (h : NoRd w p) : Calls Tryz.prog 76 #[.pointer p] w fun e w' => e = .returned (.tuple #[.int .u8 0, .int .i64 1]) ∧ w = w' := by
  have H : Hid (NoRd w p) := h
  clear h
  go_enter Tryz.func76, Tryz.ntmps76
  go_wp2_with (go_at_call 55; refine (isMade_no _ _ H.out).mono ?_; rintro e w' ⟨rfl, rfl⟩)
  go_ret2
  exact ⟨rfl, rfl⟩
theorem end_no (p : Option Addr) (w : World) (h : NoRd w p) : Calls Tryz.prog 34 #[.pointer p] w fun e w' => e = .returned (.int .i64 1) ∧ w = w' := by
  have H : Hid (NoRd w p) := h
  clear h
  go_enter Tryz.func34, Tryz.ntmps34
  go_wp2_with (go_at_call 55; refine (isMade_no _ _ H.out).mono ?_; rintro e w' ⟨rfl, rfl⟩)
  go_ret
  exact ⟨rfl, rfl⟩
/-- a reader that lies in blocks from B on: its bytes, its place -/
structure RdAt (B : Nat) (w : World) (r g cap : Nat) (l : List UInt8) (k : Nat) : Prop where
  hr : B ≤ r
  blk : w.heap[r]? = some (.cells #[.slice (some ⟨g, 0, none⟩) l.length cap, .int .i64 (k : Int), .bool true] 92 (0, 0))
  own : Own 5 B w (.slice (some ⟨g, 0, none⟩) l.length cap) l
  len : l.length ≤ 140737488355328
  at_ : k ≤ l.length

section
variable {B : Nat} {w : World} {r g cap : Nat} {l : List UInt8} {k : Nat}
theorem RdAt.c0 (h : RdAt B w r g cap l k) : w.cell? ⟨r, 0, none⟩ = some (.slice (some ⟨g, 0, none⟩) l.length cap) := by simp [World.cell?, h.blk]
theorem RdAt.c1 (h : RdAt B w r g cap l k) : w.cell? ⟨r, 1, none⟩ = some (.int .i64 (k : Int)) := by simp [World.cell?, h.blk]
theorem RdAt.c2 (h : RdAt B w r g cap l k) : w.cell? ⟨r, 2, none⟩ = some (.bool true) := by simp [World.cell?, h.blk]
theorem RdAt.f1 (h : RdAt B w r g cap l k) : w.frozen? ⟨r, 1, none⟩ = false := by simp [World.frozen?, h.blk]
theorem RdAt.drewN (h : RdAt B w r g cap l k) (n : Nat) : RdAt B (w.drewN n) r g cap l k := ⟨h.hr, h.blk, h.own, h.len, h.at_⟩
theorem RdAt.ne (h : RdAt B w r g cap l k) : g ≠ r := by
  rintro rfl
  rcases h.own.2 with h2 | ⟨g', cap', cur, e1, _, hg, _⟩
  · simp at h2
  · simp only [Value.slice.injEq, Option.some.injEq, Addr.mk.injEq] at e1
    obtain ⟨⟨rfl, _⟩, _⟩ := e1
    have := h.blk
    rw [hg] at this
    simp at this
theorem RdAt.capLe (h : RdAt B w r g cap l k) : l.length ≤ cap ∧ cap ≤ maxLen := by
  rcases h.own.2 with h2 | ⟨g', cap', cur, e1, _, _, e3, e4, _⟩
  · simp at h2
  · simp only [Value.slice.injEq] at e1
    obtain ⟨_, _, rfl⟩ := e1
    exact ⟨e3, e4⟩
theorem RdAt.byte (h : RdAt B w r g cap l k) (i : Nat) (hi : i < l.length) : w.cell? ⟨g, i, none⟩ = some (.int .u8 (l[i].toNat : Int)) := by
  have := World.ownsRow.cellAt h.own i (by omega)
  rw [this, U_get l i hi]
theorem RdAt.moved (h : RdAt B w r g cap l k) (k' : Nat) (hk : k' ≤ l.length) : RdAt B (w.setCell ⟨r, 1, none⟩ (.int .i64 (k' : Int))) r g cap l k' := by
  refine ⟨h.hr, ?_, ?_, h.len, hk⟩
  · simp only [World.setCell, Array.getElem?_modify]
    rw [if_pos trivial, h.blk]
    simp
  · exact ownsRow_setCell_other h.own (by simp [Value.ownBlock]; exact h.ne) _
theorem RdAt.below {B' : Nat} {w' : World} (h : RdAt B w r g cap l k) (hb : Below B' w w') (hB : w.heap.size ≤ B') : RdAt B w' r g cap l k :=
  ⟨h.hr, (hb.block r (Nat.lt_of_lt_of_le (lt_of_block h.blk) hB)).trans h.blk, h.own.below hb hB, h.len, h.at_⟩
theorem RdAt.mono {B' : Nat} (h : RdAt B w r g cap l k) (hB : B' ≤ B) : RdAt B' w r g cap l k := ⟨Nat.le_trans hB h.hr, h.blk, h.own.mono hB, h.len, h.at_⟩
end

set_option maxHeartbeats 400000 in
theorem over_is (a : Option Addr) (len cap : Nat) (l : List UInt8) (w : World) (hin : In w a len cap l) :
    Calls Tryz.prog 31 #[.slice a len cap] w fun e w' => ∃ r g, e = .returned (.pointer (some ⟨r, 0, none⟩)) ∧ RdAt w.heap.size w' r g len l 0 ∧ Below w.heap.size w w' := by
  have HIN : Hid (In w a len cap l) := hin
  have HLEN : Hid (l.length = len) := hin.1
  have hl := hin.2.2.1
  clear hin
  go_enter Tryz.func31, Tryz.ntmps31
  go_wp2_with (go_at_call 49; refine (copyWithRoom a len cap l 0 _ HIN.out (by omega) (by omega)).mono ?_; rw [Int.toNat_zero, Nat.add_zero]; rintro e w1 ⟨rfl, hown1, hb1⟩)
  go_ret
  have e := HLEN.out
  subst e
  refine ⟨_, _, rfl, ⟨hb1.size, heap_alloc_new w1 _, ?_, hl, Nat.zero_le _⟩, hb1.alloc hb1.size _⟩
  exact World.ownsRow.alloc hown1 _

theorem end_is {B r g cap k : Nat} {l : List UInt8} {w : World} (h : RdAt B w r g cap l k) : Calls Tryz.prog 34 #[.pointer (some ⟨r, 0, none⟩)] w fun e w' => e = .returned (.int .i64 (if k < l.length then 12 else 0)) ∧ ∃ n, w' = w.drewN n := by
  have hk := h.at_
  have hl := h.len
  have H : Hid (RdAt B w r g cap l k) := h
  clear h
  by_cases hlt : k < l.length
  · rw [if_pos hlt]
    go_enter Tryz.func34, Tryz.ntmps34
    go_wp2_with (first | (go_at_call 55; refine (isMade_is r true _ H.out.c2).mono ?_; rintro e w' ⟨rfl, rfl⟩) | (go_at_call 56; refine (left_is r k _ cap _ _ H.out.c0 H.out.c1 hk hl).mono ?_; rintro e w' ⟨rfl, n, rfl⟩))
    go_ret
    exact ⟨rfl, _, rfl⟩
  · rw [if_neg hlt]
    go_enter Tryz.func34, Tryz.ntmps34
    go_wp2_with (first | (go_at_call 55; refine (isMade_is r true _ H.out.c2).mono ?_; rintro e w' ⟨rfl, rfl⟩) | (go_at_call 56; refine (left_is r k _ cap _ _ H.out.c0 H.out.c1 hk hl).mono ?_; rintro e w' ⟨rfl, n, rfl⟩))
    go_ret
    exact ⟨rfl, _, rfl⟩

set_option maxHeartbeats 400000 in
theorem take_is (r k n g len cap : Nat) (w : World) (h0 : w.cell? ⟨r, 0, none⟩ = some (.slice (some ⟨g, 0, none⟩) len cap)) (h1 : w.cell? ⟨r, 1, none⟩ = some (.int .i64 (k : Int))) (hf : w.frozen? ⟨r, 1, none⟩ = false) (hk : k + n ≤ len) (hc : len ≤ cap) (hl : len ≤ 140737488355328) :
    Calls Tryz.prog 90 #[.pointer (some ⟨r, 0, none⟩), .int .i64 (n : Int)] w fun e w' => (∃ o, e = .returned (.slice (some ⟨g, o, none⟩) n (cap - k)) ∧ (0 < n → o = k)) ∧ ∃ m, w' = (w.setCell ⟨r, 1, none⟩ (.int .i64 ((k : Int) + (n : Int)))).drewN m := by
  have q1 : (0 : Int) ≤ (k : Int) := by omega
  have q2 : (k : Int) ≤ (k : Int) + (n : Int) := by omega
  have q3 : (k : Int) + (n : Int) ≤ (cap : Int) := by omega
  go_enter Tryz.func90, Tryz.ntmps90
  go_wp2_with fail
  go_quiet (fail)
  go_wp2
  · go_ret
    exact ⟨⟨0, by simp, by omega⟩, _, rfl⟩
  · go_ret
    exact ⟨⟨k, by simp, fun _ => rfl⟩, _, rfl⟩


end Go.Proofs.YtgdecjacbkicmaaGreatDoor.Oct

/- Layer 1 (octet): a number is read as the document says. -/
namespace Go.Proofs.YtgdecjacbkicmaaGreatDoor.Oct
open Go.RowKit
set_option maxRecDepth 100000

theorem andNot128 : ∀ x : Fin 256, bits BinOp.andNot IntKind.u8 ((x.val : Nat) : Int) 128 = ((x.val % 128 : Nat) : Int) := by decide +kernel

/-- 'n |= uint64(c &^ 128) << (7 * i)' -/
theorem num_or {q c j : Nat} (hq : q < 128 ^ j) (hj : j ≤ 9) (hc : c < 256) (h9 : j = 9 → c ≤ 1) :
    bits BinOp.or IntKind.u64 (q : Int) (IntKind.u64.wrap (IntKind.u64.wrap (bits BinOp.andNot IntKind.u8 (c : Int) 128) * 2 ^ (7 * j))) = ((q + 128 ^ j * (c % 128) : Nat) : Int) := by
  have h1 := andNot128 ⟨c, hc⟩
  simp only at h1
  have hp : (128 : Nat) ^ j = 2 ^ (7 * j) := by rw [Nat.pow_mul]
  have hp9 : (128 : Nat) ^ j ≤ 128 ^ 9 := Nat.pow_le_pow_right (by omega) hj
  have hfit : 128 ^ j * (c % 128) < 18446744073709551616 := by
    by_cases e : j = 9
    · subst e
      have : c % 128 ≤ 1 := by have := h9 rfl; omega
      have := Nat.mul_le_mul_left (128 ^ 9) this
      omega
    · have h8 : (128 : Nat) ^ j ≤ 128 ^ 8 := Nat.pow_le_pow_right (by omega) (by omega)
      have : 128 ^ j * (c % 128) ≤ 128 ^ 8 * 128 := Nat.mul_le_mul h8 (by omega)
      omega
  rw [h1, IntKind.wrap_u64, IntKind.wrap_u64]
  have e1 : ((c % 128 : Nat) : Int) % 18446744073709551616 = ((c % 128 : Nat) : Int) := by omega
  have e2 : (2 : Int) ^ (7 * j) = ((128 ^ j : Nat) : Int) := by rw [hp]; simp
  rw [e1, e2, ← Int.natCast_mul, Nat.mul_comm]
  have e3 : ((128 ^ j * (c % 128) : Nat) : Int) % 18446744073709551616 = ((128 ^ j * (c % 128) : Nat) : Int) := by omega
  rw [e3, bits_or_u64_nat q _ (by omega) hfit]
  congr 1
  rw [hp] at hq
  rw [hp, Nat.or_comm, ← Nat.two_pow_add_eq_or_of_lt hq, Nat.add_comm]

/-- one step of reading -/
theorem dec_at {l : List UInt8} {k j q c : Nat} {D : Nat × Nat × Nat} (hlt : k + j < l.length) (hj : j < 10) (hc : c = l[k + j].toNat) (hD : D = decF (10 - j) j q (l.drop (k + j))) :
    D = if j = 9 ∧ 1 < c then (0, 0, 11) else if c < 128 then (if c = 0 ∧ 0 < j then (0, 0, 11) else (q + 128 ^ j * (c % 128), j + 1, 0)) else decF (10 - (j + 1)) (j + 1) (q + 128 ^ j * (c % 128)) (l.drop (k + (j + 1))) := by
  rw [show 10 - j = (10 - (j + 1)) + 1 by omega, List.drop_eq_getElem_cons hlt, decF, ← hc] at hD
  rw [hD, Nat.add_assoc]

theorem acc_lt {q c j : Nat} (hq : q < 128 ^ j) : q + 128 ^ j * (c % 128) < 128 ^ (j + 1) := by
  rw [Nat.pow_succ]
  have : 128 ^ j * (c % 128) ≤ 128 ^ j * 127 := Nat.mul_le_mul_left _ (by omega)
  omega

theorem ended_bad (n size : Int) (w : World) (h2 : 1 < size) :
    Calls Tryz.prog 96 #[.int .u64 n, .int .i64 size, .int .u8 0] w fun e w' => e = .returned (.tuple #[.int .u64 0, .int .i64 0, .int .i64 11]) ∧ w = w' := by
  go_enter Tryz.func96, Tryz.ntmps96
  go_wp2
  go_ret3
  exact ⟨rfl, rfl⟩

theorem ended_ok (n size c : Int) (w : World) (h : ¬ (c = 0 ∧ 1 < size)) :
    Calls Tryz.prog 96 #[.int .u64 n, .int .i64 size, .int .u8 c] w fun e w' => e = .returned (.tuple #[.int .u64 n, .int .i64 size, .int .i64 0]) ∧ w = w' := by
  by_cases h1 : c = 0
  · subst h1
    have h2 : size ≤ 1 := by omega
    clear h
    go_enter Tryz.func96, Tryz.ntmps96
    go_wp2
    go_ret3
    exact ⟨rfl, rfl⟩
  · clear h
    have hc : (c == 0) = false := by simp [h1]
    go_enter Tryz.func96, Tryz.ntmps96
    go_wp2
    go_ret3
    exact ⟨rfl, rfl⟩

set_option maxHeartbeats 1600000 in
set_option maxRecDepth 100000 in
theorem number_is {B r g cap k : Nat} {l : List UInt8} {w : World} (h : RdAt B w r g cap l k) : Calls Tryz.prog 91 #[.pointer (some ⟨r, 0, none⟩)] w fun e w' =>
    e = .returned (.tuple #[.int .u64 ((dec (l.drop k)).1 : Int), .int .i64 ((dec (l.drop k)).2.1 : Int), .int .i64 ((dec (l.drop k)).2.2 : Int)]) ∧ ∃ n, w' = w.drewN n := by
  have hk := h.at_
  have hl := h.len
  have hcap := h.capLe.1
  have H : Hid (RdAt B w r g cap l k) := h
  clear h
  obtain ⟨D, hD⟩ : ∃ D, D = dec (l.drop k) := ⟨_, rfl⟩
  rw [← hD]
  have HD : Hid (D = dec (l.drop k)) := hD
  clear hD
  go_enter Tryz.func91, Tryz.ntmps91
  go_wp2_with fail
  go_loopw [5, 8] (fun nv i wr => ∃ j q m : Nat, i = .int .i64 j ∧ nv = .int .u64 (q : Int) ∧ j ≤ 10 ∧ k + j ≤ l.length ∧ wr = w.drewN m ∧ Hid (q < 128 ^ j ∧ D = decF (10 - j) j q (l.drop (k + j))))
    (fun _ i _ => 10 - (intOf i).toNat)
  case atStart => exact ⟨0, 0, 0, rfl, rfl, by omega, by omega, rfl, by simp, HD.out⟩
  case round =>
    obtain ⟨j, q, m, rfl, rfl, hj, hkj, rfl, hr⟩ := hrel
    by_cases hj10 : j = 10
    · subst hj10
      go_wp2
      go_ret3
      refine ⟨?_, _, rfl⟩
      have e := hr.out.2
      simp only [Nat.sub_self, decF] at e
      rw [e]; rfl
    · have hj' : j < 10 := by omega
      by_cases hend : k + j = l.length
      · have q1 : ((j : Int) == (l.length : Int) - (k : Int)) = true := by rw [beq_iff_eq]; omega
        go_wp2_with (go_at_call 56; refine (left_is r k _ cap _ _ (H.out.drewN m).c0 (H.out.drewN m).c1 hk hl).mono ?_; rintro e w' ⟨rfl, n, rfl⟩)
        go_ret3
        refine ⟨?_, _, rfl⟩
        have e := hr.out.2
        rw [show 10 - j = (9 - j) + 1 by omega, List.drop_eq_nil_of_le (by omega), decF] at e
        rw [e]; rfl
      · have hlt : k + j < l.length := by omega
        obtain ⟨c, hc⟩ : ∃ c, c = l[k + j].toNat := ⟨_, rfl⟩
        have hcell : w.cell? ⟨g, k + j, none⟩ = some (.int .u8 (c : Int)) := by rw [hc]; exact H.out.byte _ hlt
        have hc0 := H.out.c0
        have hc1 := H.out.c1
        have hcb : c < 256 := by rw [hc]; exact UInt8.toNat_lt _
        have HC : Hid (c = l[k + j].toNat) := hc
        clear hc
        have q1 : ((j : Int) == (l.length : Int) - (k : Int)) = false := by rw [beq_eq_false_iff_ne]; omega
        have q2 : (k : Int) + (j : Int) < (l.length : Int) := by omega
        have HDA : Hid _ := dec_at hlt hj' HC.out hr.out.2
        have HQ : Hid (q < 128 ^ j) := hr.out.1
        clear hr
        by_cases h9 : j = 9 ∧ 1 < c
        · have HE : Hid (D = (0, 0, 11)) := by have := HDA.out; rw [if_pos h9] at this; exact this
          have q3 : ((j : Int) == 9) = true := by rw [beq_iff_eq]; omega
          have q4 : (1 : Int) < (c : Int) := by omega
          clear h9 HDA hend hj10
          go_wp2_with (go_at_call 56; refine (left_is r k _ cap _ _ (H.out.drewN m).c0 (H.out.drewN m).c1 hk hl).mono ?_; rintro e w' ⟨rfl, n, rfl⟩)
          go_quiet (fail)
          go_wp2_with fail
          go_ret3
          refine ⟨?_, _, rfl⟩
          rw [HE.out]; rfl
        · have HN : Hid (bits BinOp.or IntKind.u64 (q : Int) (IntKind.u64.wrap (IntKind.u64.wrap (bits BinOp.andNot IntKind.u8 (c : Int) 128) * 2 ^ (7 * j))) = ((q + 128 ^ j * (c % 128) : Nat) : Int)) :=
            num_or HQ.out (by omega) hcb (by omega)
          by_cases h128 : c < 128
          · have q4 : (c : Int) < 128 := by omega
            have H9 : Hid (¬ (j = 9 ∧ 1 < c)) := h9
            have H128 : Hid (c < 128) := h128
            by_cases hz : c = 0 ∧ 0 < j
            · have HE : Hid (D = (0, 0, 11)) := by have := HDA.out; rw [if_neg h9, if_pos h128, if_pos hz] at this; exact this
              obtain ⟨rfl, hz2⟩ := hz
              clear h9 h128 HDA hend hj10 H9 q4 H128 hcb
              have hq : (0 : Int) < (j : Int) := by omega
              clear hz2
              by_cases hj9 : j = 9
              · have q3 : ((j : Int) == 9) = true := by rw [beq_iff_eq]; omega
                clear hj9
                go_wp2_with (go_at_call 56; refine (left_is r k _ cap _ _ (H.out.drewN m).c0 (H.out.drewN m).c1 hk hl).mono ?_; rintro e w' ⟨rfl, n, rfl⟩)
                go_quiet (fail)
                go_wp2_with (go_at_call 96; refine (ended_bad _ _ _ (by omega)).mono ?_; rintro e w' ⟨rfl, rfl⟩)
                go_ret3
                refine ⟨?_, _, rfl⟩
                rw [HE.out]; rfl
              · have q3 : ((j : Int) == 9) = false := by rw [beq_eq_false_iff_ne]; omega
                clear hj9
                go_wp2_with (go_at_call 56; refine (left_is r k _ cap _ _ (H.out.drewN m).c0 (H.out.drewN m).c1 hk hl).mono ?_; rintro e w' ⟨rfl, n, rfl⟩)
                go_quiet (fail)
                go_wp2_with (go_at_call 96; refine (ended_bad _ _ _ (by omega)).mono ?_; rintro e w' ⟨rfl, rfl⟩)
                go_ret3
                refine ⟨?_, _, rfl⟩
                rw [HE.out]; rfl
            · have HE : Hid (D = (q + 128 ^ j * (c % 128), j + 1, 0)) := by have := HDA.out; rw [if_neg h9, if_pos h128, if_neg hz] at this; exact this
              have HZ : Hid (¬ (c = 0 ∧ 0 < j)) := hz
              by_cases hj9 : j = 9
              · have q3 : ((j : Int) == 9) = true := by rw [beq_iff_eq]; omega
                have q5 : (c : Int) ≤ 1 := by omega
                clear hj9 hz h9 h128 HDA hend hj10 q4
                have q4 : (c : Int) < 128 := by omega
                go_wp2_with (go_at_call 56; refine (left_is r k _ cap _ _ (H.out.drewN m).c0 (H.out.drewN m).c1 hk hl).mono ?_; rintro e w' ⟨rfl, n, rfl⟩)
                go_quiet (fail)
                go_wp2_with (go_at_call 96; refine (ended_ok _ _ _ _ (by have := HZ.out; omega)).mono ?_; rintro e w' ⟨rfl, rfl⟩)
                go_ret3
                refine ⟨?_, _, rfl⟩
                rw [HE.out]
                exact congrArg (fun z => Ending.returned (.tuple #[.int .u64 z, .int .i64 ((j : Int) + 1), .int .i64 0])) HN.out
              · have q3 : ((j : Int) == 9) = false := by rw [beq_eq_false_iff_ne]; omega
                clear hj9 hz h9 h128 HDA hend hj10
                go_wp2_with (go_at_call 56; refine (left_is r k _ cap _ _ (H.out.drewN m).c0 (H.out.drewN m).c1 hk hl).mono ?_; rintro e w' ⟨rfl, n, rfl⟩)
                go_quiet (fail)
                go_wp2_with (go_at_call 96; refine (ended_ok _ _ _ _ (by have := HZ.out; omega)).mono ?_; rintro e w' ⟨rfl, rfl⟩)
                go_ret3
                refine ⟨?_, _, rfl⟩
                rw [HE.out]
                exact congrArg (fun z => Ending.returned (.tuple #[.int .u64 z, .int .i64 ((j : Int) + 1), .int .i64 0])) HN.out
          · have q4 : (128 : Int) ≤ (c : Int) := by omega
            have hj9 : j < 9 := by omega
            have q3 : ((j : Int) == 9) = false := by rw [beq_eq_false_iff_ne]; omega
            have HE : Hid (D = decF (10 - (j + 1)) (j + 1) (q + 128 ^ j * (c % 128)) (l.drop (k + (j + 1)))) := by have := HDA.out; rw [if_neg h9, if_neg h128] at this; exact this
            clear h9 h128 HDA hend hj10 hj'
            go_wp2_with (go_at_call 56; refine (left_is r k _ cap _ _ (H.out.drewN m).c0 (H.out.drewN m).c1 hk hl).mono ?_; rintro e w' ⟨rfl, n, rfl⟩)
            go_quiet (fail)
            go_wp2_with fail
            go_roundw
            case rel => exact ⟨j + 1, q + 128 ^ j * (c % 128), _, by go_num, congrArg (Value.int IntKind.u64) HN.out, by omega, by omega, rfl, acc_lt HQ.out, HE.out⟩
            case measure => simp [intOf]; omega

end Go.Proofs.YtgdecjacbkicmaaGreatDoor.Oct

/- Layer 1 (octet): a reader's Uint, Text and Byte tell what stands at its place, or the first thing that is wrong, and go over what they read. -/
namespace Go.Proofs.YtgdecjacbkicmaaGreatDoor.Oct
open Go.RowKit
set_option maxRecDepth 100000

section
variable {B r g cap k : Nat} {l : List UInt8} {w : World}

theorem grownTrans {w w1 w2 : World} {row : Option Nat} (h : w.grownBy w1 row) (k : w1.grownBy w2 row) : w.grownBy w2 row :=
  ⟨k.os.trans h.os, k.tape.trans h.tape, k.output.trans h.output, Nat.le_trans h.size k.size, fun b hb hne => (k.block b (Nat.lt_of_lt_of_le hb h.size) hne).trans (h.block b hb hne)⟩

theorem RdAt.keeps {w' : World} (h : RdAt B w r g cap l k) (hg : w.grownBy w' (some r)) : Below B w w' :=
  (Below.refl _ _).grown hg (Nat.le_trans h.hr (Nat.le_of_lt (lt_of_block h.blk))) (by intro b hb; simp at hb; have := h.hr; omega)

theorem RdAt.draw (h : RdAt B w r g cap l k) (n : Nat) : RdAt B (w.drewN n) r g cap l k ∧ w.grownBy (w.drewN n) (some r) := ⟨h.drewN n, rfl, rfl, rfl, Nat.le_refl _, fun _ _ _ => rfl⟩

theorem number_rdG (h : RdAt B w r g cap l k) : Calls Tryz.prog 91 #[.pointer (some ⟨r, 0, none⟩)] w fun e w' =>
    e = .returned (.tuple #[.int .u64 ((dec (l.drop k)).1 : Int), .int .i64 ((dec (l.drop k)).2.1 : Int), .int .i64 ((dec (l.drop k)).2.2 : Int)]) ∧ RdAt B w' r g cap l k ∧ w.grownBy w' (some r) := by
  refine (number_is h).mono ?_
  rintro e w' ⟨rfl, n, rfl⟩
  exact ⟨rfl, h.draw n⟩

theorem left_rdG (h : RdAt B w r g cap l k) : Calls Tryz.prog 56 #[.pointer (some ⟨r, 0, none⟩)] w fun e w' => e = .returned (.int .i64 ((l.length : Int) - (k : Int))) ∧ RdAt B w' r g cap l k ∧ w.grownBy w' (some r) := by
  refine (left_is r k _ cap _ _ h.c0 h.c1 h.at_ h.len).mono ?_
  rintro e w' ⟨rfl, n, rfl⟩
  exact ⟨rfl, h.draw n⟩

theorem take_rdG (n : Nat) (h : RdAt B w r g cap l k) (hn : k + n ≤ l.length) : Calls Tryz.prog 90 #[.pointer (some ⟨r, 0, none⟩), .int .i64 (n : Int)] w fun e w' =>
    (∃ o, e = .returned (.slice (some ⟨g, o, none⟩) n (cap - k)) ∧ (0 < n → o = k)) ∧ RdAt B w' r g cap l (k + n) ∧ w.grownBy w' (some r) := by
  refine (take_is r k n g _ cap _ h.c0 h.c1 h.f1 hn h.capLe.1 h.len).mono ?_
  rintro e w' ⟨ho, m, rfl⟩
  refine ⟨ho, ?_, ⟨rfl, rfl, rfl, by simp [World.setCell], fun b _ hne => Below.heap_setCell w ⟨r, 1, none⟩ _ b (fun e => hne (by rw [e]))⟩⟩
  have := (h.moved (k + n) hn).drewN m
  rwa [Int.natCast_add] at this

theorem dec_used (b : List UInt8) : (dec b).2.1 ≤ b.length := by
  rcases dec_err b with h | h | h
  · have := dec_form (l := b) (m := (dec b).1) (k := (dec b).2.1) (by rw [← h])
    exact this.2.2.2
  · rw [h]; exact Nat.zero_le _
  · rw [h]; exact Nat.zero_le _

set_option maxHeartbeats 400000 in
theorem uint_isG (h : RdAt B w r g cap l k) : Calls Tryz.prog 80 #[.pointer (some ⟨r, 0, none⟩)] w fun e w' =>
    e = .returned (.tuple #[.int .u64 ((dec (l.drop k)).1 : Int), .int .i64 ((dec (l.drop k)).2.2 : Int)]) ∧ RdAt B w' r g cap l (k + (dec (l.drop k)).2.1) ∧ w.grownBy w' (some r) := by
  have H : Hid (RdAt B w r g cap l k) := h
  have HU : Hid (k + (dec (l.drop k)).2.1 ≤ l.length) := by have := dec_used (l.drop k); have := h.at_; simp at *; show _ ≤ _; omega
  clear h
  rcases dec_err (l.drop k) with he | he | he
  · generalize hD : dec (l.drop k) = D at *
    obtain ⟨n, s, e⟩ := D
    simp only at he HU ⊢
    subst he
    have HDD : Hid (dec (l.drop k) = (n, s, 0)) := hD
    clear hD
    go_enter Tryz.func80, Tryz.ntmps80
    go_wp2_with (first | (go_at_call 55; refine (isMade_is r true _ H.out.c2).mono ?_; rintro e w' ⟨rfl, rfl⟩))
    refine (number_rdG H.out).mono ?_
    rw [HDD.out]
    rintro e w1 ⟨rfl, h1, hb1⟩
    have H1 : Hid (RdAt B w1 r g cap l k) := h1
    clear h1
    go_wp2_with fail
    refine (take_rdG s H1.out HU.out).mono ?_
    rintro e w2 ⟨⟨o, rfl, _⟩, h2, hb2⟩
    have H2 : Hid (RdAt B w2 r g cap l (k + s)) := h2
    clear h2
    go_wp2
    go_ret2
    exact ⟨rfl, H2.out, grownTrans hb1 hb2⟩
  · rw [he]
    have HDD : Hid (dec (l.drop k) = (0, 0, 10)) := he
    clear he
    go_enter Tryz.func80, Tryz.ntmps80
    go_wp2_with (first | (go_at_call 55; refine (isMade_is r true _ H.out.c2).mono ?_; rintro e w' ⟨rfl, rfl⟩))
    refine (number_rdG H.out).mono ?_
    rw [HDD.out]
    rintro e w1 ⟨rfl, h1, hb1⟩
    have H1 : Hid (RdAt B w1 r g cap l k) := h1
    clear h1
    go_wp2
    go_ret2
    exact ⟨rfl, H1.out, hb1⟩
  · rw [he]
    have HDD : Hid (dec (l.drop k) = (0, 0, 11)) := he
    clear he
    go_enter Tryz.func80, Tryz.ntmps80
    go_wp2_with (first | (go_at_call 55; refine (isMade_is r true _ H.out.c2).mono ?_; rintro e w' ⟨rfl, rfl⟩))
    refine (number_rdG H.out).mono ?_
    rw [HDD.out]
    rintro e w1 ⟨rfl, h1, hb1⟩
    have H1 : Hid (RdAt B w1 r g cap l k) := h1
    clear h1
    go_wp2
    go_ret2
    exact ⟨rfl, H1.out, hb1⟩

set_option maxHeartbeats 400000 in
theorem byte_endG (h : RdAt B w r g cap l k) (hk : k = l.length) : Calls Tryz.prog 76 #[.pointer (some ⟨r, 0, none⟩)] w fun e w' =>
    e = .returned (.tuple #[.int .u8 0, .int .i64 10]) ∧ RdAt B w' r g cap l k ∧ w.grownBy w' (some r) := by
  have H : Hid (RdAt B w r g cap l k) := h
  have q : (((l.length : Int) - (k : Int)) == 0) = true := by rw [beq_iff_eq]; omega
  clear h hk
  go_enter Tryz.func76, Tryz.ntmps76
  go_wp2_with (first | (go_at_call 55; refine (isMade_is r true _ H.out.c2).mono ?_; rintro e w' ⟨rfl, rfl⟩))
  refine (left_rdG H.out).mono ?_
  rintro e w1 ⟨rfl, h1, hb1⟩
  have H1 : Hid (RdAt B w1 r g cap l k) := h1
  clear h1
  go_wp2
  go_ret2
  exact ⟨rfl, H1.out, hb1⟩

set_option maxHeartbeats 400000 in
theorem byte_isG (h : RdAt B w r g cap l k) (hk : k < l.length) (c : Nat) (hc : c = l[k].toNat) : Calls Tryz.prog 76 #[.pointer (some ⟨r, 0, none⟩)] w fun e w' =>
    e = .returned (.tuple #[.int .u8 (c : Int), .int .i64 0]) ∧ RdAt B w' r g cap l (k + 1) ∧ w.grownBy w' (some r) := by
  have H : Hid (RdAt B w r g cap l k) := h
  have q : (((l.length : Int) - (k : Int)) == 0) = false := by rw [beq_eq_false_iff_ne]; omega
  have HK : Hid (k < l.length) := hk
  have HC : Hid (c = l[k].toNat) := hc
  clear h hc
  go_enter Tryz.func76, Tryz.ntmps76
  go_wp2_with (first | (go_at_call 55; refine (isMade_is r true _ H.out.c2).mono ?_; rintro e w' ⟨rfl, rfl⟩))
  refine (left_rdG H.out).mono ?_
  rintro e w1 ⟨rfl, h1, hb1⟩
  have H1 : Hid (RdAt B w1 r g cap l k) := h1
  clear h1
  go_wp2_with fail
  refine (take_rdG 1 H1.out HK.out).mono ?_
  rintro e w2 ⟨⟨o, rfl, ho⟩, h2, hb2⟩
  obtain rfl := ho (by omega)
  have hcell : w2.cell? ⟨g, o, none⟩ = some (.int .u8 (c : Int)) := by rw [HC.out]; exact h2.byte _ HK.out
  have H2 : Hid (RdAt B w2 r g cap l (o + 1)) := h2
  clear h2 ho
  go_wp2
  go_ret2
  exact ⟨rfl, H2.out, grownTrans hb1 hb2⟩

/-- a text at the beginning of bytes: (its bytes, how many bytes it takes, the error) -/
def txt (b : List UInt8) (most : Int) : List UInt8 × Nat × Nat :=
  if (dec b).2.2 ≠ 0 then ([], 0, (dec b).2.2)
  else if most.toNat < (dec b).1 then ([], 0, 3)
  else if b.length - (dec b).2.1 < (dec b).1 then ([], 0, 10)
  else ((b.drop (dec b).2.1).take (dec b).1, (dec b).2.1 + (dec b).1, 0)

theorem string_part {P : Program} {e t9 t22 : TypeId} (h22 : P.underlying t22 = some (.slice e)) (h5 : P.underlying e = some (.int .u8)) (h9 : P.underlying t9 = some .string)
    {w : World} {g o cp : Nat} (l : List UInt8) (h : ∀ j (hj : j < l.length), w.cell? ⟨g, o + j, none⟩ = some (.int .u8 (l[j].toNat : Int))) :
    (convert t22 t9 (.slice (some ⟨g, o, none⟩) l.length cp)).run P w = .ok (.string ⟨l.toArray⟩) w := by
  refine run_convert_bytes_back w t22 t9 e ⟨g, o, none⟩ cp l h22 h5 h9 fun j hj => ?_
  rw [Addr.add_lit, h j hj]

set_option maxHeartbeats 800000 in
theorem text_isG (most : Int) (hm0 : -9223372036854775808 ≤ most) (hm1 : most ≤ 9223372036854775807) (h : RdAt B w r g cap l k) : Calls Tryz.prog 78 #[.pointer (some ⟨r, 0, none⟩), .int .i64 most] w fun e w' =>
    e = .returned (.tuple #[.string ⟨(txt (l.drop k) most).1.toArray⟩, .int .i64 ((txt (l.drop k) most).2.2 : Int)]) ∧ RdAt B w' r g cap l (k + (txt (l.drop k) most).2.1) ∧ w.grownBy w' (some r) := by
  have H : Hid (RdAt B w r g cap l k) := h
  have hkl := h.at_
  have hll := h.len
  clear h
  have hu := dec_used (l.drop k)
  have hn := dec_lt (l.drop k)
  rcases dec_err (l.drop k) with he | he | he
  · unfold txt
    rw [if_neg (by omega)]
    generalize hD : dec (l.drop k) = D at *
    obtain ⟨n, s, e⟩ := D
    simp only [List.length_drop] at he hu hn ⊢
    subst he
    have HDD : Hid (dec (l.drop k) = (n, s, 0)) := hD
    clear hD
    go_enter Tryz.func78, Tryz.ntmps78
    go_wp2_with (first | (go_at_call 55; refine (isMade_is r true _ H.out.c2).mono ?_; rintro e w' ⟨rfl, rfl⟩))
    refine (number_rdG H.out).mono ?_
    rw [HDD.out]
    rintro e w1 ⟨rfl, h1, hb1⟩
    have H1 : Hid (RdAt B w1 r g cap l k) := h1
    clear h1
    go_wp2_with fail
    · go_ret2
      exact ⟨rfl, H1.out, hb1⟩
    · refine (left_rdG H1.out).mono ?_
      rintro e w2 ⟨rfl, h2, hb2⟩
      have H2 : Hid (RdAt B w2 r g cap l k) := h2
      clear h2
      go_wp2_with fail
      · go_ret2
        exact ⟨rfl, H2.out, grownTrans hb1 hb2⟩
      · have hfit : k + s + n ≤ l.length := by omega
        refine (take_rdG s H2.out (by omega)).mono ?_
        rintro e w3 ⟨⟨o, rfl, _⟩, h3, hb3⟩
        have H3 : Hid (RdAt B w3 r g cap l (k + s)) := h3
        clear h3
        go_wp2_with fail
        refine (take_rdG n H3.out hfit).mono ?_
        rintro e w4 ⟨⟨o', rfl, ho⟩, h4, hb4⟩
        have hstr : (convert 26 9 (.slice (some ⟨g, o', none⟩) n (cap - (k + s)))).run Tryz.prog w4 = .ok (.string ⟨(((l.drop k).drop s).take n).toArray⟩) w4 := by
          have hlen : (((l.drop k).drop s).take n).length = n := by simp; omega
          have e := string_part (w := w4) (g := g) (o := o') (cp := cap - (k + s)) Tryz.underlying26 Tryz.underlying5 Tryz.underlying9 (((l.drop k).drop s).take n) (by
            intro j hj
            rw [hlen] at hj
            rw [ho (by omega), h4.byte (k + s + j) (by omega)]
            simp [Nat.add_assoc])
          rw [hlen] at e
          exact e
        have H4 : Hid (RdAt B w4 r g cap l (k + s + n)) := h4
        clear h4 ho
        go_wp2_with fail
        go_ret2
        exact ⟨rfl, by rw [← Nat.add_assoc]; exact H4.out, grownTrans (grownTrans (grownTrans hb1 hb2) hb3) hb4⟩
  · unfold txt
    rw [he, if_pos (by decide)]
    have HDD : Hid (dec (l.drop k) = (0, 0, 10)) := he
    clear he hu hn
    go_enter Tryz.func78, Tryz.ntmps78
    go_wp2_with (first | (go_at_call 55; refine (isMade_is r true _ H.out.c2).mono ?_; rintro e w' ⟨rfl, rfl⟩))
    refine (number_rdG H.out).mono ?_
    rw [HDD.out]
    rintro e w1 ⟨rfl, h1, hb1⟩
    have H1 : Hid (RdAt B w1 r g cap l k) := h1
    clear h1
    go_wp2
    go_ret2
    exact ⟨rfl, H1.out, hb1⟩
  · unfold txt
    rw [he, if_pos (by decide)]
    have HDD : Hid (dec (l.drop k) = (0, 0, 11)) := he
    clear he hu hn
    go_enter Tryz.func78, Tryz.ntmps78
    go_wp2_with (first | (go_at_call 55; refine (isMade_is r true _ H.out.c2).mono ?_; rintro e w' ⟨rfl, rfl⟩))
    refine (number_rdG H.out).mono ?_
    rw [HDD.out]
    rintro e w1 ⟨rfl, h1, hb1⟩
    have H1 : Hid (RdAt B w1 r g cap l k) := h1
    clear h1
    go_wp2
    go_ret2
    exact ⟨rfl, H1.out, hb1⟩

theorem uint_is (h : RdAt B w r g cap l k) : Calls Tryz.prog 80 #[.pointer (some ⟨r, 0, none⟩)] w fun e w' =>
    e = .returned (.tuple #[.int .u64 ((dec (l.drop k)).1 : Int), .int .i64 ((dec (l.drop k)).2.2 : Int)]) ∧ RdAt B w' r g cap l (k + (dec (l.drop k)).2.1) ∧ Below B w w' :=
  (uint_isG h).mono fun _ _ ⟨h1, h2, h3⟩ => ⟨h1, h2, h.keeps h3⟩
theorem otext_is (most : Int) (hm0 : -9223372036854775808 ≤ most) (hm1 : most ≤ 9223372036854775807) (h : RdAt B w r g cap l k) : Calls Tryz.prog 78 #[.pointer (some ⟨r, 0, none⟩), .int .i64 most] w fun e w' =>
    e = .returned (.tuple #[.string ⟨(txt (l.drop k) most).1.toArray⟩, .int .i64 ((txt (l.drop k) most).2.2 : Int)]) ∧ RdAt B w' r g cap l (k + (txt (l.drop k) most).2.1) ∧ Below B w w' :=
  (text_isG most hm0 hm1 h).mono fun _ _ ⟨h1, h2, h3⟩ => ⟨h1, h2, h.keeps h3⟩
end

end Go.Proofs.YtgdecjacbkicmaaGreatDoor.Oct
