/-
  Layer 2 (hash): the law on 'Hex' and 'Unhex'.
-/
import Derived.Test.YtgpndgajmmbjhabDoorRefUnhex
import Derived.Test.YtgpndgajmmbjhabDoorRefHex
import Derived.Test.YtgpndgajmmbjhabDoorEqualLaw
import Derived.Test.YtgpndgajmmbjhabDoorLives
namespace Go.Proofs.YtgpndgajmmbjhabDoor.Oct
open Go.RowKit Sha

/-- bytes of the call's own, as a value of which all later worlds know the text -/
def Kept (w : World) (v : Value) (S : ByteArray) : Prop := ∀ W, Below w.heap.size w W → (convert 22 9 v).run Tryd.prog W = .ok (.string S) W
theorem kept_own {B : Nat} {w : World} {v : Value} {o : List UInt8} (h : Own 5 B w v o) (hl : o.length ≤ 100000) : Kept w v ⟨o.toArray⟩ := by
  intro W hW
  obtain ⟨a, cp, rfl, hin, -⟩ := own_in (h.below hW (Nat.le_refl _)) (by omega)
  exact string_in Tryd.underlying22 Tryd.underlying5 Tryd.underlying9 hin
theorem unhexL_length : ∀ (s o : List UInt8), unhexL s = some o → o.length * 2 = s.length := by
  intro s o h
  rw [← hex_unhex s o h, hexOf_length]; omega

set_option maxHeartbeats 1000000 in
set_option maxRecDepth 100000 in
theorem hexLaw (l : List UInt8) (a : Option Addr) (n cp : Nat) (s : ByteArray) (w : World) (hk : KT w) (hs : ST w) (hl : In w a n cp l) (hn : s.size ≤ 140737488355328) :
    Calls Tryd.prog 5 #[.slice a n cp, .string s] w fun e w' => e = .returned (.bool true) ∧ Below w.heap.size w w' := by
  have HK : Hid (KT w) := hk
  have HS : Hid (ST w) := hs
  have HL : Hid (In w a n cp l) := hl
  have b1 := hl.2.2.1
  have e1 := hl.1
  obtain ⟨m, hm⟩ : ∃ m, s.size = m := ⟨_, rfl⟩
  rw [hm] at hn
  clear hk hs hl
  by_cases hbig : 20000 < n + m
  · have q : (20000 : Int) < (n : Int) + (m : Int) := by omega
    clear hbig e1
    go_enter Tryd.func5, Tryd.ntmps5
    go_wp2_with (go_at_call 8; refine (lives_is w HK.out HS.out).mono ?_; rintro e w1 ⟨rfl, hw1⟩)
    go_ret
    exact ⟨rfl, hw1⟩
  · have q : (n : Int) + (m : Int) ≤ 20000 := by omega
    have HLL : Hid (l.length = n) := e1
    have HM : Hid (s.size = m) := hm
    have HNM : Hid (n + m ≤ 20000) := by show n + m ≤ 20000; omega
    clear hbig e1
    obtain ⟨t, ht⟩ : ∃ t, t = s.data.toList := ⟨_, rfl⟩
    have HT : Hid (t = s.data.toList) := ht
    have HTS : Hid (s = ⟨t.toArray⟩) := by show _ = _; rw [ht]
    have HTL : Hid (t.length = m) := by show _ = _; rw [ht, ← hm]; rfl
    obtain ⟨o, ho⟩ : ∃ o, o = (unhexL t).getD [] := ⟨_, rfl⟩
    obtain ⟨E, hE⟩ : ∃ E : Int, E = if (unhexL t).isSome then 0 else 20 := ⟨_, rfl⟩
    have HO : Hid (o = (unhexL t).getD []) := ho
    have HE : Hid (E = if (unhexL t).isSome then 0 else 20) := hE
    have HOL : Hid (o.length ≤ 20000) := by
      show o.length ≤ 20000
      rw [ho]
      cases h : unhexL t with
      | none => simp
      | some x => have := unhexL_length t x h; have := HTL.out; have := HNM.out; simp; omega
    obtain ⟨SO, hSO⟩ : ∃ S : ByteArray, S = ⟨o.toArray⟩ := ⟨_, rfl⟩
    obtain ⟨SL, hSL⟩ : ∃ S : ByteArray, S = ⟨l.toArray⟩ := ⟨_, rfl⟩
    obtain ⟨SH, hSH⟩ : ∃ S : ByteArray, S = ⟨(hexOf l).toArray⟩ := ⟨_, rfl⟩
    have HSO : Hid (SO = ⟨o.toArray⟩) := hSO
    have HSL : Hid (SL = ⟨l.toArray⟩) := hSL
    have HSH : Hid (SH = ⟨(hexOf l).toArray⟩) := hSH
    clear ht ho hE hSO hSL hSH
    go_enter Tryd.func5, Tryd.ntmps5
    go_wp2_with fail
    refine (unhex_is s t HT.out.symm w (by rw [HM.out]; have := HNM.out; omega)).mono ?_
    rintro e w1 ⟨⟨v1, rfl, hv1⟩, hb1⟩
    rw [← HE.out]
    rw [← HO.out] at hv1
    have HV1 : Hid (Own 5 w.heap.size w1 v1 o) := hv1
    have HB1 : Hid (Below w.heap.size w w1) := hb1
    clear hv1 hb1
    go_wp2_with fail
    refine (refUnhex_is s t HT.out.symm w1 (by rw [HM.out]; have := HNM.out; omega)).mono ?_
    rintro e w2 ⟨⟨v2, rfl, hv2⟩, hb2⟩
    rw [← HE.out]
    rw [← HO.out] at hv2
    have HV2 : Hid (Own 5 w1.heap.size w2 v2 o) := hv2
    have HB2 : Hid (Below w1.heap.size w1 w2) := hb2
    have HBB2 : Hid (Below w.heap.size w w2) := HB1.out.trans (hb2.mono HB1.out.size)
    clear hv2 hb2
    go_wp2_with fail
    refine (hex_is l a n cp w2 (HL.out.below HBB2.out) (by have := HNM.out; omega)).mono ?_
    rintro e w3 ⟨rfl, hb3⟩
    rw [← HSH.out]
    have HB3 : Hid (Below w2.heap.size w2 w3) := hb3
    clear hb3
    go_wp2_with fail
    refine (unhex_is SH (hexOf l) (by rw [HSH.out]) w3 (by rw [HSH.out]; show (hexOf l).toArray.size ≤ _; rw [List.size_toArray, hexOf_length, HLL.out]; have := HNM.out; omega)).mono ?_
    rintro e w4 ⟨⟨v3, rfl, hv3⟩, hb4⟩
    rw [unhex_hex] at hv3 ⊢
    simp only [Option.getD_some, Option.isSome_some, if_true] at hv3 ⊢
    have HV3 : Hid (Own 5 w3.heap.size w4 v3 l) := hv3
    have HB4 : Hid (Below w3.heap.size w3 w4) := hb4
    clear hv3 hb4
    have HBB3 : Hid (Below w.heap.size w w3) := HBB2.out.trans (HB3.out.mono HBB2.out.size)
    have HBB4 : Hid (Below w.heap.size w w4) := HBB3.out.trans (HB4.out.mono HBB3.out.size)
    have H24 : Hid (Below w2.heap.size w2 w4) := HB3.out.trans (HB4.out.mono HB3.out.size)
    have H14 : Hid (Below w1.heap.size w1 w4) := HB2.out.trans (H24.out.mono HB2.out.size)
    go_wp2_with fail
    refine (hex_is l a n cp w4 (HL.out.below HBB4.out) (by have := HNM.out; omega)).mono ?_
    rintro e w5 ⟨rfl, hb5⟩
    rw [← HSH.out]
    have HB5 : Hid (Below w4.heap.size w4 w5) := hb5
    have HBB5 : Hid (Below w.heap.size w w5) := HBB4.out.trans (hb5.mono HBB4.out.size)
    clear hb5
    go_wp2_with fail
    refine (refHex_is l a n cp w5 (HL.out.below HBB5.out) (by have := HNM.out; omega)).mono ?_
    rintro e w6 ⟨rfl, hb6⟩
    rw [← HSH.out]
    have H46 : Hid (Below w4.heap.size w4 w6) := HB5.out.trans (hb6.mono HB5.out.size)
    have H26 : Hid (Below w2.heap.size w2 w6) := H24.out.trans (H46.out.mono H24.out.size)
    have H16 : Hid (Below w1.heap.size w1 w6) := H14.out.trans (H46.out.mono H14.out.size)
    have HBB6 : Hid (Below w.heap.size w w6) := HBB4.out.trans (H46.out.mono HBB4.out.size)
    have k1 : (convert 22 9 v1).run Tryd.prog w6 = .ok (.string SO) w6 := by rw [HSO.out]; exact kept_own HV1.out (by have := HOL.out; omega) w6 H16.out
    have k2 : (convert 22 9 v2).run Tryd.prog w6 = .ok (.string SO) w6 := by rw [HSO.out]; exact kept_own HV2.out (by have := HOL.out; omega) w6 H26.out
    have k3 : (convert 22 9 v3).run Tryd.prog w6 = .ok (.string SL) w6 := by rw [HSL.out]; exact kept_own HV3.out (by rw [HLL.out]; have := HNM.out; omega) w6 H46.out
    have k4 : (convert 22 9 (.slice a n cp)).run Tryd.prog w6 = .ok (.string SL) w6 := by rw [HSL.out]; exact string_in Tryd.underlying22 Tryd.underlying5 Tryd.underlying9 (HL.out.below HBB6.out)
    clear hb6
    cases hu : unhexL t with
    | none =>
      have hE20 : E = 20 := by rw [HE.out, hu]; rfl
      subst hE20
      clear hu
      go_wp2_with (go_at_call 8; refine (lives_is w6 (HK.out.below HBB6.out) (HS.out.below HBB6.out)).mono ?_; rintro e w7 ⟨rfl, hw7⟩)
      go_ret
      exact ⟨rfl, HBB6.out.trans (hw7.mono HBB6.out.size)⟩
    | some x =>
      have hE0 : E = 0 := by rw [HE.out, hu]; rfl
      have hox : o = x := by rw [HO.out, hu]; rfl
      have HX : Hid ((⟨(hexOf o).toArray⟩ : ByteArray) = s) := by show _ = _; rw [HTS.out, hox, hex_unhex t x hu]
      obtain ⟨a1, c1, hv1, hin1, -⟩ := own_in (HV1.out.below H16.out (Nat.le_refl _)) (by have := HOL.out; omega)
      subst hE0
      have HI1 : Hid (In w6 a1 o.length c1 o) := hin1
      obtain ⟨N1, hN1⟩ : ∃ N, N = o.length := ⟨_, rfl⟩
      rw [← hN1] at HI1 hv1
      have HN1 : Hid (N1 ≤ 20000) := by rw [hN1]; exact HOL.out
      subst hv1
      clear hu hox hin1 hN1
      go_wp2_with (first
        | (go_at_call 17; refine (hex_is o a1 N1 c1 w6 HI1.out (by have := HN1.out; omega)).mono ?_; rintro e w7 ⟨rfl, hb7⟩; rw [HX.out]; have HBB7 : Hid (Below w.heap.size w w7) := HBB6.out.trans (hb7.mono HBB6.out.size); clear hb7)
        | (go_at_call 8; refine (lives_is w7 (HK.out.below HBB7.out) (HS.out.below HBB7.out)).mono ?_; rintro e w8 ⟨rfl, hw8⟩))
      go_ret
      exact ⟨rfl, HBB7.out.trans (hw8.mono HBB7.out.size)⟩
#print axioms hexLaw
end Go.Proofs.YtgpndgajmmbjhabDoor.Oct
