/-
  'OctetBack': what was put is read again: the law's walk.
-/
import Derived.Test.YtdealgbbahmigaaCalls
import Derived.Test.YtdealgbbahmigaaArgs
namespace Go.Proofs.Ytdealgbbahmigaa.Oct
open Go.RowKit

/-- what the two readings of a number and a text give -/
theorem txt_enc (s : ByteArray) (l : List UInt8) (hs : s.size < 18446744073709551616) : txt (enc s.size ++ s.data.toList ++ l) (s.size : Int) = (s.data.toList, (enc s.size).length + s.size, 0) := by
  have hd : dec (enc s.size ++ s.data.toList ++ l) = (s.size, (enc s.size).length, 0) := by rw [List.append_assoc]; exact dec_enc _ hs _
  have hl : s.data.toList.length = s.size := by rw [Array.length_toList]; rfl
  unfold txt
  rw [hd]
  simp only [ne_eq, not_true_eq_false, if_false, Int.toNat_natCast, Nat.lt_irrefl]
  rw [if_neg (by simp only [List.length_append, hl]; omega)]
  rw [List.append_assoc, List.drop_left, ← hl, List.take_left]

set_option maxHeartbeats 400000 in
theorem back (n : Int) (s : ByteArray) (a : Option Addr) (len cap : Nat) (l : List UInt8) (w : World) (h0 : 0 ≤ n) (h1 : n ≤ 18446744073709551615) (hs : s.size ≤ 140737488355328) (hin : Arg w a len cap l) (hl : len ≤ 140737488355328) :
    Calls Try.prog 5 #[.int .u64 n, .string s, .slice a len cap] w fun e w' => e = .returned (.bool true) ∧ Below w.heap.size w w' := by
  obtain ⟨i0, hi, hz0, hz1, hz2⟩ := info_parts info5
  have HIN : Hid (In w a len cap l) := hin.toIn hl
  clear hin
  by_cases hbig : 100000 < s.size + len
  · have q : (100000 : Int) < (s.size : Int) + (len : Int) := by omega
    clear hbig
    go_enter Try.func5, Try.ntmps5
    go_wp2_with (go_at_call 8; refine (lives _).mono ?_; rintro e w1 ⟨rfl, hb1⟩)
    go_ret
    exact ⟨rfl, hb1⟩
  · have q : (s.size : Int) + (len : Int) ≤ 100000 := by omega
    have HE : Hid ((enc n.toNat).length ≤ 10) := enc_le _ (by omega)
    have HES : Hid ((enc s.size).length ≤ 10) := enc_le _ (by omega)
    have HLL : Hid (l.length = len) := HIN.out.1
    have HSL : Hid (s.data.toList.length = s.size) := by show _ = _; rw [Array.length_toList]; rfl
    clear hbig
    go_enter Try.func5, Try.ntmps5
    go_wp2_with fail
    refine (put none 0 0 [] n _ (In.nil _) h0 h1).mono ?_
    simp only [Nat.zero_add, List.nil_append]
    rintro e w1 ⟨rfl, hown1, hb1⟩
    have H1 : Hid (In w1 (some ⟨w.heap.size, 0, none⟩) (enc n.toNat).length (enc n.toNat).length (enc n.toNat)) := Own.toIn hown1 (by have := HE.out; omega)
    clear hown1
    go_wp2_with fail
    refine (putText _ _ _ (enc n.toNat) s _ H1.out (by have := HE.out; omega)).mono ?_
    obtain ⟨T, hT⟩ : ∃ T, T = enc n.toNat ++ enc s.size ++ s.data.toList := ⟨_, rfl⟩
    obtain ⟨N, hN⟩ : ∃ N, N = T.length := ⟨_, rfl⟩
    rw [← hT, ← hN]
    have HT : Hid (T = enc n.toNat ++ enc s.size ++ s.data.toList) := hT
    have HN : Hid (T.length = N) := hN.symm
    have hNle : N ≤ 100020 := by have := HE.out; have := HES.out; have := HSL.out; rw [hN, hT]; simp only [List.length_append]; omega
    clear hT
    rintro e w2 ⟨g, cp, rfl, hg, hg2, hcp, hown2, hb2⟩
    have hbb2 := hb1.trans (hb2.mono hb1.size)
    have H2 : Hid (w2.ownsRow w1.heap.size 5 1 (.slice (some ⟨g, 0, none⟩) N cp) N (U T)) := own_size HN.out hown2
    clear hown2 hN
    go_wp2_with (at_builtin; refine wpList_append_in _ rfl _ _ 22 rfl w1.heap.size 5 i0 Try.underlying22 hi hz0 hz1 hz2 _ T N HN.out rfl H2.out a len cap l rfl (HIN.out.below hbb2) (by omega) hb2.size ?_)
    intro v3 w3 hown3 hg3
    have hb3 := hb2.grown hg3 hb2.size (by intro b hb; simp [Value.ownBlock] at hb; omega)
    have hpos : 0 < (T ++ l).length := by have := enc_pos n.toNat; rw [HT.out]; simp only [List.length_append]; omega
    obtain ⟨g3, cp3, rfl, _, _, _, _⟩ := hown3.shape hpos
    obtain ⟨M, hM⟩ : ∃ M, M = (T ++ l).length := ⟨_, rfl⟩
    rw [← hM] at hown3 ⊢
    have H3 : Hid (In w3 (some ⟨g3, 0, none⟩) M cp3 (T ++ l)) := by
      subst hM; exact Own.toIn hown3 (by have := HN.out; have := HLL.out; simp only [List.length_append]; omega)
    have HM : Hid (M = (T ++ l).length) := hM
    have hbb3 := hb1.trans (hb3.mono hb1.size)
    clear hown3 hg3 hpos hM
    go_wp2_with fail
    refine (over_is _ _ _ _ _ H3.out).mono ?_
    rintro e w4 ⟨r, g4, rfl, hrd, hb4⟩
    have hbb4 := hbb3.trans (hb4.mono hbb3.size)
    have H4 : Hid (RdAt w3.heap.size w4 r g4 M (T ++ l) 0) := hrd
    clear hrd
    have HD : Hid (dec ((T ++ l).drop 0) = (n.toNat, (enc n.toNat).length, 0)) := by
      show _ = _
      rw [List.drop_zero, HT.out, List.append_assoc, List.append_assoc]; exact dec_enc _ (by omega) _
    have HX : Hid (txt ((T ++ l).drop (0 + (enc n.toNat).length)) (s.size : Int) = (s.data.toList, (enc s.size).length + s.size, 0)) := by
      show _ = _
      rw [Nat.zero_add, HT.out, List.append_assoc, List.append_assoc, List.drop_left, ← List.append_assoc]; exact txt_enc s l (by omega)
    go_wp2_with fail
    refine (uint_is H4.out).mono ?_
    rw [HD.out]
    rintro e w5 ⟨rfl, h5, hb5⟩
    have H5 : Hid (RdAt w3.heap.size w5 r g4 M (T ++ l) (0 + (enc n.toNat).length)) := h5
    have hbb5 := hbb4.trans (hb5.mono hbb3.size)
    clear h5
    go_wp2_with fail
    refine (text_is (s.size : Int) (by omega) (by omega) H5.out).mono ?_
    rw [HX.out]
    rintro e w6 ⟨rfl, h6, hb6⟩
    have H6 : Hid (RdAt w3.heap.size w6 r g4 M (T ++ l) (0 + (enc n.toNat).length + ((enc s.size).length + s.size))) := h6
    have hbb6 := hbb5.trans (hb6.mono hbb3.size)
    clear h6
    have e1 : ((n.toNat : Int) == n) = true := by rw [beq_iff_eq]; omega
    have hlen : (((T ++ l).length : Nat) : Int) - ((0 + (enc n.toNat).length + ((enc s.size).length + s.size) : Nat) : Int) = (len : Int) := by
      have := HSL.out; have := HLL.out; rw [HT.out]; simp only [List.length_append]; omega
    have HLEN : Hid _ := hlen
    clear hlen
    go_wp2_with fail
    refine (leftIs H6.out).mono ?_
    rw [HLEN.out]
    rintro e w7 ⟨rfl, m, rfl⟩
    go_wp2_with fail
    refine (lives _).mono ?_
    rintro e w8 ⟨rfl, hb8⟩
    go_wp2
    go_ret
    exact ⟨rfl, (below_drewN hbb6 m).trans (hb8.mono hbb6.size)⟩

#print axioms back
end Go.Proofs.Ytdealgbbahmigaa.Oct
