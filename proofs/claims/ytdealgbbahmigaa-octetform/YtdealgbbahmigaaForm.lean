/-
  'OctetForm': a number that was read, put again, is the bytes that were read: the law's walk.
-/
import Derived.Test.YtdealgbbahmigaaCalls
import Derived.Test.YtdealgbbahmigaaArgs
import Derived.Deep.RegionHeld
namespace Go.Proofs.Ytdealgbbahmigaa.Oct
open Go.RowKit

set_option maxHeartbeats 400000 in
theorem form_bad (a : Option Addr) (len cap x : Nat) (l : List UInt8) (w : World) (hin : In w a len cap l) (hl : len ≤ 100000) (hx : x = 10 ∨ x = 11) (hd : dec l = (0, 0, x)) :
    Calls Try.prog 6 #[.slice a len cap] w fun e w' => e = .returned (.bool true) ∧ Below w.heap.size w w' := by
  have HIN : Hid (In w a len cap l) := hin
  have HLL : Hid (l.length = len) := hin.1
  have HD : Hid (dec (l.drop 0) = (0, 0, x)) := hd
  have q : (len : Int) ≤ 100000 := by omega
  clear hin hd hl
  have q2 : ((x : Int) != 0) = true := by rw [bne_iff_ne]; omega
  go_enter Try.func6, Try.ntmps6
  go_wp2_with fail
  refine (over_is _ _ _ _ _ HIN.out).mono ?_
  rintro e w1 ⟨r, g, rfl, hrd, hb1⟩
  have H1 : Hid (RdAt w.heap.size w1 r g len l 0) := hrd
  clear hrd
  go_wp2_with fail
  refine (uint_is H1.out).mono ?_
  rw [HD.out]
  rintro e w2 ⟨rfl, h2, hb2⟩
  have H2 : Hid (RdAt w.heap.size w2 r g len l 0) := h2
  have hbb2 := hb1.trans hb2
  clear h2
  go_wp2_with fail
  refine (leftIs H2.out).mono ?_
  rw [HLL.out, show (len : Int) - ((0 : Nat) : Int) = (len : Int) by omega]
  rintro e w3 ⟨rfl, m, rfl⟩
  go_wp2_with fail
  refine (lives _).mono ?_
  rintro e w4 ⟨rfl, hb4⟩
  go_wp2
  go_ret
  exact ⟨rfl, (below_drewN hbb2 m).trans (hb4.mono hbb2.size)⟩

/-- a number put behind nothing, as a string -/
theorem put_str (n K : Nat) (S : ByteArray) (hn : n < 18446744073709551616) (hK : (enc n).length = K) (hS : S = ⟨(enc n).toArray⟩) (w : World) :
    Calls Try.prog 9 #[.slice none 0 0, .int .u64 (n : Int)] w fun e w' => ∃ g cp, e = .returned (.slice (some ⟨g, 0, none⟩) K cp) ∧
      (convert 22 9 (.slice (some ⟨g, 0, none⟩) K cp)).run Try.prog w' = .ok (.string S) w' ∧ Below w.heap.size w w' := by
  refine (put none 0 0 [] n _ (In.nil _) (by omega) (by omega)).mono ?_
  simp only [Nat.zero_add, List.nil_append, Int.toNat_natCast]
  rintro e w1 ⟨rfl, hown, hb⟩
  subst hS hK
  exact ⟨_, _, rfl, string_own Try.underlying22 Try.underlying5 Try.underlying9 hown, hb⟩

set_option maxHeartbeats 400000 in
theorem form_good (a : Option Addr) (len cap n k : Nat) (l : List UInt8) (w : World) (hin : In w a len cap l) (hl : len ≤ 100000) (hd : dec l = (n, k, 0)) :
    Calls Try.prog 6 #[.slice a len cap] w fun e w' => e = .returned (.bool true) ∧ Below w.heap.size w w' := by
  have HIN : Hid (In w a len cap l) := hin
  have HLL : Hid (l.length = len) := hin.1
  have HD : Hid (dec (l.drop 0) = (n, k, 0)) := hd
  obtain ⟨f1, f2, f3, f4⟩ := dec_form hd
  have HF : Hid (enc n = l.take k) := f1
  have hn : n < 18446744073709551616 := by have := dec_lt l; rw [hd] at this; exact this
  have hkl : k ≤ len := by rw [← HLL.out]; exact f4
  have q : (len : Int) ≤ 100000 := by omega
  have hle := hin.2.1
  obtain ⟨b, off, rfl, hbl, hcells⟩ := hin.2.2.2.2 (by omega)
  obtain ⟨S, hS⟩ : ∃ S : ByteArray, S = ⟨(enc n).toArray⟩ := ⟨_, rfl⟩
  have HS : Hid (S = ⟨(enc n).toArray⟩) := hS
  have HK : Hid ((enc n).length = k) := by show _ = _; rw [HF.out, List.length_take]; omega
  have hconv : ∀ W, Below w.heap.size w W → (convert 22 9 (.slice (some ⟨b, off, none⟩) k cap)).run Try.prog W = .ok (.string S) W := by
    intro W hW
    rw [hS]
    have e := string_part (w := W) (g := b) (o := off) (cp := cap) Try.underlying22 Try.underlying5 Try.underlying9 (enc n) (by
      intro j hj
      rw [hW.cell (p := ⟨b, off + j, none⟩) hbl]
      refine hcells j _ ?_
      have hj' : j < k := by rw [← HK.out]; exact hj
      have e1 : (enc n)[j]? = some (enc n)[j] := List.getElem?_eq_getElem hj
      rw [← e1, HF.out, List.getElem?_take, if_pos hj'])
    rw [HK.out] at e
    exact e
  have HCONV : Hid (∀ W, Below w.heap.size w W → (convert 22 9 (.slice (some ⟨b, off, none⟩) k cap)).run Try.prog W = .ok (.string S) W) := hconv
  clear hin hd hl f1 f4 hcells hS hconv
  go_enter Try.func6, Try.ntmps6
  go_wp2_with fail
  refine (over_is _ _ _ _ _ HIN.out).mono ?_
  rintro e w1 ⟨r, g, rfl, hrd, hb1⟩
  have H1 : Hid (RdAt w.heap.size w1 r g len l 0) := hrd
  clear hrd
  go_wp2_with fail
  refine (uint_is H1.out).mono ?_
  rw [HD.out]
  rintro e w2 ⟨rfl, h2, hb2⟩
  have H2 : Hid (RdAt w.heap.size w2 r g len l (0 + k)) := h2
  have hbb2 := hb1.trans hb2
  clear h2
  go_wp2_with fail
  refine (leftIs H2.out).mono ?_
  rw [HLL.out, Nat.zero_add]
  rintro e w3 ⟨rfl, m, hw3⟩
  have hbb3 : Below w.heap.size w w3 := by rw [hw3]; exact below_drewN hbb2 m
  have q1 : (1 : Int) ≤ (k : Int) := by omega
  have q2 : (k : Int) ≤ 10 := by omega
  have q3 : (k : Int) ≤ (cap : Int) := by omega
  have g1 : decide ((1 : Int) ≤ (k : Int)) = true := by simp; omega
  have g2 : decide ((k : Int) ≤ 10) = true := by simp; omega
  have hbbD : Below w.heap.size w w3.drew := hbb3.drew
  have hcD : (convert 22 9 (.slice (some ⟨b, off, none⟩) k cap)).run Try.prog w3.drew = .ok (.string S) w3.drew := HCONV.out _ hbbD
  have HBD : Hid (Below w.heap.size w w3.drew) := hbbD
  have HB3 : Hid (Below w.heap.size w w3) := hbb3
  clear hb1 hb2 hw3 hbb2 hbbD hbb3 H1 H2 HIN HD HLL HF
  go_wp2_with fail
  rw [show (len : Int) - ((len : Int) - (k : Int)) = (k : Int) by omega]
  go_region_held (fun w' => (convert 22 9 (.slice (some ⟨b, off, none⟩) k cap)).run Try.prog w' = .ok (.string S) w') (first | exact hcD | assumption)
    (first
    | (go_at_call 9; refine (put_str n k S hn HK.out HS.out _).mono ?_; rintro e w4 ⟨g4, cp4, rfl, hc4, hb4⟩; have hcc4 := HCONV.out w4 (HBD.out.trans (hb4.mono HB3.out.size)); have HB4 : Hid (Below w.heap.size w w4) := HBD.out.trans (hb4.mono HB3.out.size); clear hb4)
    | (go_at_call 8; refine (lives _).mono ?_; rintro e w5 ⟨rfl, hb5⟩; have hcc5 := HCONV.out w5 (HB4.out.trans (hb5.mono HB4.out.size))))
  go_wp2
  go_ret
  exact ⟨rfl, HB4.out.trans (hb5.mono HB4.out.size)⟩

theorem form (a : Option Addr) (len cap : Nat) (l : List UInt8) (w : World) (hin : Arg w a len cap l) (hl : len ≤ 140737488355328) :
    Calls Try.prog 6 #[.slice a len cap] w fun e w' => e = .returned (.bool true) ∧ Below w.heap.size w w' := by
  by_cases hbig : 100000 < len
  · have q : (100000 : Int) < (len : Int) := by omega
    clear hbig hin
    go_enter Try.func6, Try.ntmps6
    go_wp2_with (go_at_call 8; refine (lives _).mono ?_; rintro e w1 ⟨rfl, hb1⟩)
    go_ret
    exact ⟨rfl, hb1⟩
  · have hi := hin.toIn hl
    rcases dec_err l with h | h | h
    · exact form_good a len cap (dec l).1 (dec l).2.1 l w hi (by omega) (by rw [← h])
    · exact form_bad a len cap 10 l w hi (by omega) (.inl rfl) h
    · exact form_bad a len cap 11 l w hi (by omega) (.inr rfl) h

#print axioms form
end Go.Proofs.Ytdealgbbahmigaa.Oct
