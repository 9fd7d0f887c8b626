/-
  Layer 1 (octet): copyWithRoom, appendNumber, Put, PutText: what they leave.
-/
import Derived.Test.YtgdecjacbkicmaaDoorOLen
import Derived.Test.YtgdecjacbkicmaaDoorBase
import Derived.Outline
namespace Go.Proofs.YtgdecjacbkicmaaDoor.Oct
open Go.RowKit
set_option maxRecDepth 100000

theorem info5 : (Tryd.prog.info? 5).map (fun i => (i.zero, i.size, i.bytes)) = some (some (.int .u8 0), 1, 1) := by kernel_rfl
theorem size5 : (Tryd.prog.info? 5).map (·.size) = some 1 := by kernel_rfl

set_option maxHeartbeats 400000 in
theorem copyWithRoom (a : Option Addr) (len cap : Nat) (l : List UInt8) (room : Int) (w : World) (hin : In w a len cap l) (h0 : 0 ≤ room) (h1 : room ≤ 70368744177664) :
    Calls Tryd.prog 68 #[.slice a len cap, .int .i64 room] w fun e w' => e = .returned (.slice (some ⟨w.heap.size, 0, none⟩) len (len + room.toNat)) ∧
      Own 5 w.heap.size w' (.slice (some ⟨w.heap.size, 0, none⟩) len (len + room.toNat)) l ∧ Below w.heap.size w w' := by
  obtain ⟨r, rfl⟩ := Int.eq_ofNat_of_zero_le h0
  rw [Int.toNat_natCast]
  obtain ⟨i0, hi, hz0, hz1, hz2⟩ := info_parts info5
  have hlen := hin.1
  have hle := hin.2.1
  have hcap := hin.2.2.1
  have HIN : Hid (In w a len cap l) := hin
  have HLEN : Hid (l.length = len) := hlen
  clear hin hlen
  go_enter Tryd.func68, Tryd.ntmps68
  go_wp2_with (at_make; refine wpList_make_two _ rfl _ _ 28 rfl 5 i0 Tryd.underlying28 hi hz0 hz1 hz2 _ _ _ _ len (len + r) rfl rfl (by omega) (by omega) (by omega) (by omega) ?_)
  intro w1 hrow1 _hsz1 hb1
  have HR1 : Hid (Hid (w1.heap[w.heap.size]? = some (.cells (noughts (len + r)).toArray 5 (0, 0)))) := hrow1
  clear hrow1
  go_wp2_with (refine wpList_copy_splice rfl (.tmp 13) (.tmp 14) 28 28 rfl 5 Tryd.underlying28 size5 (some ⟨w.heap.size, 0, none⟩) a len (len + r) len cap rfl rfl w.heap.size 0 (noughts (len + r)) 5 HR1.out.out (U l) ?c1 ?c2 ?c3 (U_one l) w.heap.size w hb1 (Nat.le_refl _) ?_)
  case c1 => rw [U_length, HLEN.out]; simp
  case c2 => exact fun hp => cells_of_in (HIN.out.below hb1) hp
  case c3 => rw [U_length, noughts_length, HLEN.out]; omega
  intro w2 hrow2 hb2
  go_wp2
  go_ret
  refine ⟨rfl, ?_, hb2⟩
  have hl := HLEN.out
  subst hl
  exact own_of_splice (Nat.le_refl _) (by unfold maxLen; omega) (by omega) hrow2.out

theorem or128 : ∀ x : Fin 256, bits BinOp.or IntKind.u8 ((x.val : Nat) : Int) 128 = ((x.val % 128 + 128 : Nat) : Int) := by decide +kernel
theorem or_byte (q : Nat) : bits BinOp.or IntKind.u8 ((q : Int) % 256) 128 = ((UInt8.ofNat (q % 128 + 128)).toNat : Int) := by
  have h := or128 ⟨q % 256, Nat.mod_lt _ (by omega)⟩
  simp only at h
  rw [toNat_more, show (q : Int) % 256 = ((q % 256 : Nat) : Int) by omega, h]
  congr 1; omega

theorem one_cell (w : World) (o : Obj) (v : Value) (h : o = .cells #[v] 5) : ∀ j u, [v][j]? = some u → (w.alloc o).cell? ((⟨w.heap.size, 0, none⟩ : Addr).add j) = some u := by
  subst h
  intro j u hj
  match j, hj with
  | 0, hj => simp at hj; subst hj; simp [Addr.add]

/-- the round's step -/
theorem num_step {B g k cap j q N L : Nat} {xs : List Value} {w wr w1 : World} {dn : List UInt8} {c : Int} {o : Obj} (hL : L = (enc N).length) (hlt : j + 1 < L) (hc : c = ((UInt8.ofNat (q % 128 + 128)).toNat : Int))
    (hr : dn.length = j ∧ dn ++ enc q = enc N ∧ wr.ownsRow B 5 1 (.slice (some ⟨g, 0, none⟩) (k + j) cap) (k + j) (xs ++ U dn) ∧ w.grownBy wr (some g))
    (hown' : w1.ownsRow B 5 1 (.slice (some ⟨g, 0, none⟩) (k + j + 1) cap) (k + j + 1) (xs ++ (U dn ++ [.int .u8 c]))) (hgrow : (wr.alloc o).grownBy w1 (some g)) :
    ∃ dn', Hid (dn'.length = j + 1 ∧ dn' ++ enc (q / 128) = enc N ∧ w1.ownsRow B 5 1 (.slice (some ⟨g, 0, none⟩) (k + (j + 1)) cap) (k + (j + 1)) (xs ++ U dn') ∧ w.grownBy w1 (some g)) := by
  obtain ⟨h1, h2, h3, h4⟩ := hr
  have hq : 128 ≤ q := by
    rcases Nat.lt_or_ge q 128 with h | h
    · rw [enc_small h] at h2
      have := congrArg List.length h2
      simp at this; omega
    · exact h
  rw [enc_big hq] at h2
  refine ⟨dn ++ [UInt8.ofNat (q % 128 + 128)], by simp [h1], by simpa using h2, ?_, ?_⟩
  · have e : xs ++ U (dn ++ [UInt8.ofNat (q % 128 + 128)]) = xs ++ (U dn ++ [.int .u8 c]) := by rw [U_append, hc]; rfl
    rw [e]; exact hown'
  · have hg2 := World.grownBy_alloc wr o (some g)
    exact ⟨hgrow.os.trans h4.os, hgrow.tape.trans h4.tape, hgrow.output.trans h4.output, Nat.le_trans h4.size (Nat.le_trans hg2.size hgrow.size),
      fun b hb hne => ((hgrow.block b (Nat.lt_of_lt_of_le hb (Nat.le_trans h4.size hg2.size)) hne).trans (hg2.block b (Nat.lt_of_lt_of_le hb h4.size) hne)).trans (h4.block b hb hne)⟩

/-- the last byte -/
theorem num_end {B g k cap j q N L : Nat} {xs : List Value} {w wr w1 : World} {dn : List UInt8} {c : Int} {o : Obj} (hL : L = (enc N).length) (hlt : j + 1 = L) (hc : c = (q : Int) % 256)
    (hr : dn.length = j ∧ dn ++ enc q = enc N ∧ wr.ownsRow B 5 1 (.slice (some ⟨g, 0, none⟩) (k + j) cap) (k + j) (xs ++ U dn) ∧ w.grownBy wr (some g))
    (hown' : w1.ownsRow B 5 1 (.slice (some ⟨g, 0, none⟩) (k + j + 1) cap) (k + j + 1) (xs ++ (U dn ++ [.int .u8 c]))) (hgrow : (wr.alloc o).grownBy w1 (some g)) :
    k + j + 1 = k + L ∧ w1.ownsRow B 5 1 (.slice (some ⟨g, 0, none⟩) (k + L) cap) (k + L) (xs ++ U (enc N)) ∧ w.grownBy w1 (some g) := by
  obtain ⟨h1, h2, h3, h4⟩ := hr
  have hq : q < 128 := by
    rcases Nat.lt_or_ge q 128 with h | h
    · exact h
    · rw [enc_big h] at h2
      have := congrArg List.length h2
      have := enc_pos (q / 128)
      simp at *; omega
  rw [enc_small hq] at h2
  refine ⟨by omega, ?_, ?_⟩
  · have e : xs ++ U (enc N) = xs ++ (U dn ++ [.int .u8 c]) := by
      have hcc : c = ((UInt8.ofNat q).toNat : Int) := by rw [toNat_small hq, hc]; omega
      rw [← h2, U_append, hcc]; rfl
    rw [e, ← hlt]; exact hown'
  · have hg2 := World.grownBy_alloc wr o (some g)
    exact ⟨hgrow.os.trans h4.os, hgrow.tape.trans h4.tape, hgrow.output.trans h4.output, Nat.le_trans h4.size (Nat.le_trans hg2.size hgrow.size),
      fun b hb hne => ((hgrow.block b (Nat.lt_of_lt_of_le hb (Nat.le_trans h4.size hg2.size)) hne).trans (hg2.block b (Nat.lt_of_lt_of_le hb h4.size) hne)).trans (h4.block b hb hne)⟩

set_option maxHeartbeats 800000 in
theorem appendNumber (B g k cap : Nat) (xs : List Value) (n : Int) (w : World) (h0 : 0 ≤ n) (h1 : n ≤ 18446744073709551615)
    (hown : w.ownsRow B 5 1 (.slice (some ⟨g, 0, none⟩) k cap) k xs) (hfit : k + (enc n.toNat).length ≤ cap) (_hB : B ≤ w.heap.size) :
    Calls Tryd.prog 67 #[.slice (some ⟨g, 0, none⟩) k cap, .int .u64 n] w fun e w' => e = .returned (.slice (some ⟨g, 0, none⟩) (k + (enc n.toNat).length) cap) ∧
      w'.ownsRow B 5 1 (.slice (some ⟨g, 0, none⟩) (k + (enc n.toNat).length) cap) (k + (enc n.toNat).length) (xs ++ U (enc n.toNat)) ∧ w.grownBy w' (some g) := by
  obtain ⟨i0, hi, hz0, hz1, hz2⟩ := info_parts info5
  obtain ⟨N, rfl⟩ := Int.eq_ofNat_of_zero_le h0
  simp only [Int.toNat_natCast] at hfit ⊢
  obtain ⟨L, hL⟩ : ∃ L, L = (enc N).length := ⟨_, rfl⟩
  have hL1 := enc_pos N
  have hL2 := enc_le N (by omega)
  rw [← hL] at hfit hL1 hL2 ⊢
  have HL : Hid (L = (enc N).length) := hL
  have HOWN : Hid (w.ownsRow B 5 1 (.slice (some ⟨g, 0, none⟩) k cap) k xs) := hown
  clear hL hown
  go_enter Tryd.func67, Tryd.ntmps67
  go_wp2_with (go_at_call 69; refine (numberSize _ _ h0 h1).mono ?_; rw [Int.toNat_natCast, ← HL.out]; rintro e w' ⟨rfl, rfl⟩)
  go_loopw [0, 1, 8] (fun v m i wr => ∃ (j q : Nat) (dn : List UInt8), i = .int .i64 j ∧ m = .int .u64 (q : Int) ∧ j + 1 ≤ L ∧ q < 18446744073709551616 ∧ v = .slice (some ⟨g, 0, none⟩) (k + j) cap ∧
      Hid (dn.length = j ∧ dn ++ enc q = enc N ∧ wr.ownsRow B 5 1 (.slice (some ⟨g, 0, none⟩) (k + j) cap) (k + j) (xs ++ U dn) ∧ w.grownBy wr (some g)))
    (fun _ _ i _ => L - (intOf i).toNat)
  case atStart => exact ⟨0, N, [], rfl, rfl, by omega, by omega, rfl, rfl, rfl, by simpa [U] using HOWN.out, World.grownBy.refl _ _⟩
  case round =>
    obtain ⟨j, q, dn, rfl, rfl, hj, hq, rfl, hr⟩ := hrel
    by_cases hlt : j + 1 < L
    · go_wp2_with (at_builtin; refine wpList_append_fits _ rfl _ _ 28 rfl B 5 i0 1 Tryd.underlying28 hi hz1 g (k + j) cap _ rfl (hr.out.2.2.1.alloc _) ⟨wr.heap.size, 0, none⟩ 1 1 [.int .u8 (bits BinOp.or IntKind.u8 ((q : Int) % 256) 128)] rfl rfl (one_cell _ _ _ rfl) (by intro u hu; simp at hu; subst hu; rfl) (by omega) ?_)
      intro w1 hown1 hgrow1
      obtain ⟨dn', R⟩ := num_step HL.out hlt (or_byte q) hr.out hown1 hgrow1
      clear hown1 hgrow1 hr
      go_wp2
      go_roundw
      case rel => exact ⟨j + 1, q / 128, dn', by go_num, by go_num, by omega, by omega, by rw [Nat.add_assoc], R⟩
      case measure => simp [intOf]; omega
    · go_wp2_with (at_builtin; refine wpList_append_fits _ rfl _ _ 28 rfl B 5 i0 1 Tryd.underlying28 hi hz1 g (k + j) cap _ rfl (hr.out.2.2.1.alloc _) ⟨wr.heap.size, 0, none⟩ 1 1 [.int .u8 ((q : Int) % 256)] rfl rfl (one_cell _ _ _ rfl) (by intro u hu; simp at hu; subst hu; rfl) (by omega) ?_)
      intro w1 hown1 hgrow1
      have R := num_end HL.out (by omega) rfl hr.out hown1 hgrow1
      have HR := (show Hid _ from R)
      clear hown1 hgrow1 hr R
      go_wp2
      go_ret
      exact ⟨congrArg (fun z => Ending.returned (Value.slice (some ⟨g, 0, none⟩) z cap)) HR.out.1, HR.out.2⟩

theorem own_len {e : TypeId} {B : Nat} {w : World} {v : Value} {l : List UInt8} {n : Nat} (hn : l.length = n) (h : w.ownsRow B e 1 v n (U l)) : Own e B w v l := by
  subst hn; exact h

set_option maxHeartbeats 400000 in
theorem put (a : Option Addr) (len cap : Nat) (l : List UInt8) (n : Int) (w : World) (hin : In w a len cap l) (h0 : 0 ≤ n) (h1 : n ≤ 18446744073709551615) :
    Calls Tryd.prog 42 #[.slice a len cap, .int .u64 n] w fun e w' => e = .returned (.slice (some ⟨w.heap.size, 0, none⟩) (len + (enc n.toNat).length) (len + (enc n.toNat).length)) ∧
      Own 5 w.heap.size w' (.slice (some ⟨w.heap.size, 0, none⟩) (len + (enc n.toNat).length) (len + (enc n.toNat).length)) (l ++ enc n.toNat) ∧ Below w.heap.size w w' := by
  have hle := enc_le n.toNat (by omega)
  have hlen := hin.1
  have HLEN : Hid (l.length = len) := hlen
  clear hlen
  have HIN : Hid (In w a len cap l) := hin
  clear hin
  go_enter Tryd.func42, Tryd.ntmps42
  go_wp2_with (go_at_call 69; refine (numberSize _ _ h0 h1).mono ?_; rintro e w' ⟨rfl, rfl⟩)
  refine (copyWithRoom a len cap l _ _ HIN.out (by omega) (by omega)).mono ?_
  rw [Int.toNat_natCast]
  rintro e w1 ⟨rfl, hown1, hb1⟩
  have HO : Hid (w1.ownsRow w.heap.size 5 1 (.slice (some ⟨w.heap.size, 0, none⟩) len (len + (enc n.toNat).length)) len (U l)) := by
    have := hown1; unfold Own at this; rw [HLEN.out] at this; exact this
  clear hown1
  go_wp2_with fail
  refine (appendNumber w.heap.size w.heap.size len _ (U l) n _ h0 h1 HO.out (Nat.le_refl _) hb1.size).mono ?_
  rintro e w2 ⟨rfl, hown2, hg2⟩
  have hb2 := hb1.grown hg2 hb1.size (by intro k hk; simp at hk; omega)
  have HO2 : Hid (Own 5 w.heap.size w2 (.slice (some ⟨w.heap.size, 0, none⟩) (len + (enc n.toNat).length) (len + (enc n.toNat).length)) (l ++ enc n.toNat)) :=
    own_len (by rw [List.length_append, HLEN.out]) (by rw [U_append]; exact hown2)
  clear hown2 hg2
  go_wp2
  go_ret
  exact ⟨rfl, HO2.out, hb2⟩

set_option maxHeartbeats 400000 in
theorem putText (a : Option Addr) (len cap : Nat) (l : List UInt8) (s : ByteArray) (w : World) (hin : In w a len cap l) (hs : len + s.size ≤ 35184372088832) :
    Calls Tryd.prog 41 #[.slice a len cap, .string s] w fun e w' => ∃ g cp, e = .returned (.slice (some ⟨g, 0, none⟩) (l ++ enc s.size ++ s.data.toList).length cp) ∧ w.heap.size ≤ g ∧ g < w'.heap.size ∧ cp ≤ maxLen ∧
      Own 5 w.heap.size w' (.slice (some ⟨g, 0, none⟩) (l ++ enc s.size ++ s.data.toList).length cp) (l ++ enc s.size ++ s.data.toList) ∧ Below w.heap.size w w' := by
  have hle := enc_le s.size (by omega)
  obtain ⟨i0, hi, hz0, hz1, hz2⟩ := info_parts info5
  have hlen := hin.1
  have HLEN : Hid (l.length = len) := hlen
  clear hlen
  have HIN : Hid (In w a len cap l) := hin
  clear hin
  go_enter Tryd.func41, Tryd.ntmps41
  go_wp2_with (go_at_call 69; refine (numberSize _ _ (by omega) (by omega)).mono ?_; rw [Int.toNat_natCast]; rintro e w' ⟨rfl, rfl⟩)
  refine (copyWithRoom a len cap l _ _ HIN.out (by omega) (by omega)).mono ?_
  rw [show ((enc s.size).length + (s.size : Int) : Int).toNat = (enc s.size).length + s.size by omega]
  rintro e w1 ⟨rfl, hown1, hb1⟩
  have HO : Hid (w1.ownsRow w.heap.size 5 1 (.slice (some ⟨w.heap.size, 0, none⟩) len (len + ((enc s.size).length + s.size))) len (U l)) := by
    have := hown1; unfold Own at this; rw [HLEN.out] at this; exact this
  clear hown1
  go_wp2_with fail
  refine (appendNumber w.heap.size w.heap.size len _ (U l) s.size _ (by omega) (by omega) HO.out (by rw [Int.toNat_natCast]; omega) hb1.size).mono ?_
  rw [Int.toNat_natCast]
  rintro e w2 ⟨rfl, hown2, hg2⟩
  have hb2 := hb1.grown hg2 hb1.size (by intro k hk; simp at hk; omega)
  have HO2 : Hid (w2.ownsRow w.heap.size 5 1 (.slice (some ⟨w.heap.size, 0, none⟩) (len + (enc s.size).length) (len + ((enc s.size).length + s.size))) (len + (enc s.size).length) (U (l ++ enc s.size))) := by
    rw [U_append]; exact hown2
  clear hown2 hg2
  go_wp2_with (at_builtin; refine Lib.wpList_append_own_string _ rfl _ _ 28 9 rfl w.heap.size 5 i0 Tryd.underlying28 Tryd.underlying9 hi hz0 hz1 hz2 _ _ _ rfl HO2.out s rfl (by unfold maxLen; omega) (by omega) hb2.size ?_)
  intro v3 w3 hown3 hg3 _
  have hb3 := hb2.grown hg3 hb2.size (by intro k hk; simp [Value.ownBlock] at hk; omega)
  have ho3 : Own 5 w.heap.size w3 v3 (l ++ enc s.size ++ s.data.toList) := own_len (n := len + (enc s.size).length + s.size) (by rw [List.length_append, List.length_append, HLEN.out]; rfl) (by rw [U_append _ s.data.toList]; exact hown3)
  obtain ⟨g, cp, hv, e1, e2, _, e4⟩ := ho3.shape (by have := enc_pos s.size; simp; omega)
  rw [hv]
  rw [hv] at ho3
  clear hown3 hg3 hv
  have HO3 : Hid _ := ho3
  clear ho3
  go_wp2
  go_ret
  exact ⟨g, cp, rfl, e1, e2, e4, HO3.out, hb3⟩

end Go.Proofs.YtgdecjacbkicmaaDoor.Oct
