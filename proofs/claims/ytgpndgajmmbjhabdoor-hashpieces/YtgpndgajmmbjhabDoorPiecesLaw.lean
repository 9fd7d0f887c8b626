/-
  Layer 2 (hash): the law on pieces.
-/
import Derived.Test.YtgpndgajmmbjhabDoorPiecesKept
import Derived.Test.YtgpndgajmmbjhabDoorSumsLaw
namespace Go.Proofs.YtgpndgajmmbjhabDoor.Oct
open Go.RowKit Sha

theorem dsum_is' (d : Nat) (M D : List UInt8) (hD : sum M = D) (w : World) (hk : KT w) (hd : Dig w d M) (hM : M.length < 900000000000) :
    Calls Tryd.prog 14 #[.pointer (some ⟨d, 0, none⟩)] w fun e w' => e = .returned (.agg (U D).toArray) ∧ Hid (Below w.heap.size w w') := by
  subst hD
  exact (dsum_is d M w hk hd hM).mono fun _ _ h => h

set_option maxHeartbeats 1000000 in
set_option maxRecDepth 100000 in
theorem piecesLaw (ls : List (List UInt8)) (a : Option Addr) (n cp : Nat) (k : Int) (w : World) (hk : KT w) (hs : ST w) (hl : ArgL w a n cp ls) (hll : ∀ l ∈ ls, l.length ≤ 140737488355328) (k0 : -9223372036854775808 ≤ k) (k1 : k ≤ 9223372036854775807) :
    Calls Tryd.prog 4 #[.slice a n cp, .int .i64 k] w fun e w' => e = .returned (.bool true) ∧ Below w.heap.size w w' := by
  obtain ⟨i0, hi, hz0, hz1, hz2⟩ := info_parts info5
  have HK : Hid (KT w) := hk
  have HS : Hid (ST w) := hs
  have HL : Hid (ArgL w a n cp ls) := hl
  have HLS : Hid (∀ l ∈ ls, l.length ≤ 140737488355328) := hll
  have b1 : n ≤ 9223372036854775807 := by have h1 := hl.2.1; have h2 := hl.2.2.1; unfold maxLen at h2; omega
  clear hk hs hl hll
  by_cases hbig : 100 < n
  · have q : (100 : Int) < (n : Int) := by omega
    go_enter Tryd.func4, Tryd.ntmps4
    go_wp2_with fail
    refine (new_is w HS.out).mono ?_
    rintro e w1 ⟨rfl, hd1, hw1⟩
    have HW1 : Hid (Below w.heap.size w w1) := hw1
    clear hd1 hw1
    go_wp2_with (go_at_call 8; refine (lives_is w1 (HK.out.below HW1.out) (HS.out.below HW1.out)).mono ?_; rintro e w2 ⟨rfl, hw2⟩)
    go_ret
    exact ⟨rfl, HW1.out.trans (hw2.mono HW1.out.size)⟩
  have q : (n : Int) ≤ 100 := by omega
  clear b1 hbig
  go_enter Tryd.func4, Tryd.ntmps4
  go_wp2_with fail
  refine (new_is w HS.out).mono ?_
  rintro e w1 ⟨rfl, hd1, hw1⟩
  have HA0 : Hid (At w (.slice none 0 0) [] w1) := ⟨hd1, World.ownsRow_nil _ _ _ _, hw1⟩
  clear hd1 hw1
  go_wp2_with fail
  go_loopw [27, 6] (fun i v wr => ∃ (t : Nat) (M : List UInt8), i = .int .i64 t ∧ t ≤ n ∧ Hid (M.length ≤ 5000) ∧ Hid (At w v M wr)) (fun i _ _ => n - (intOf i).toNat)
  case atStart => exact ⟨0, [], rfl, by omega, (show _ ≤ _ by simp), HA0.out⟩
  case round =>
    obtain ⟨t, M, rfl, ht, hM, hA⟩ := hrel
    obtain ⟨av, cv, rfl, hinv, -⟩ := own_in hA.out.2.1 (by have := hM.out; omega)
    obtain ⟨m, hm⟩ : ∃ m, m = M.length := ⟨_, rfl⟩
    have HMM : Hid (M.length = m) := hm.symm
    have hm5 : m ≤ 5000 := by rw [hm]; exact hM.out
    rw [← hm] at hinv hA ⊢
    have HV : Hid (In wr av m cv M) := hinv
    have HKR : Hid (KT wr) := HK.out.below hA.out.2.2
    have HSR : Hid (ST wr) := HS.out.below hA.out.2.2
    have HM9 : Hid (M.length < 900000000000) := by have := hM.out; show _ < _; omega
    clear hm hinv
    obtain ⟨D, hD⟩ : ∃ D, sum M = D := ⟨_, rfl⟩
    have HD : Hid (sum M = D) := hD
    have hq := eq_same D (by rw [← hD]; exact sum_length M)
    clear hD
    by_cases hlt : t = n
    · subst hlt
      go_wp2_with fail
      refine (dsum_is' w.heap.size M D HD.out wr HKR.out hA.out.1 HM9.out).mono ?_
      rintro e w2 ⟨rfl, HB2⟩
      go_wp2_with fail
      refine (sum_is' M D HD.out av m cv w2 (HKR.out.below HB2.out) (HSR.out.below HB2.out) (HV.out.below HB2.out) (by omega)).mono ?_
      rintro e w3 ⟨rfl, HB3⟩
      have HB23 : Hid (Below wr.heap.size wr w3) := HB2.out.trans (HB3.out.mono HB2.out.size)
      go_wp2_with fail
      refine (dsum_is' w.heap.size M D HD.out w3 (HKR.out.below HB23.out) (hA.out.below HB23.out).1 HM9.out).mono ?_
      rintro e w4 ⟨rfl, HB4⟩
      have HB24 : Hid (Below wr.heap.size wr w4) := HB23.out.trans (HB4.out.mono HB23.out.size)
      go_wp2_with fail
      refine (refIs M D HD.out av m cv w4 (HV.out.below HB24.out) (by omega)).mono ?_
      rintro e w5 ⟨rfl, HB5⟩
      have HB25 : Hid (Below wr.heap.size wr w5) := HB24.out.trans (HB5.out.mono HB24.out.size)
      go_wp2_with (go_at_call 8; refine (lives_is w5 (HKR.out.below HB25.out) (HSR.out.below HB25.out)).mono ?_; rintro e w6 ⟨rfl, hw6⟩)
      go_ret
      have hA5 := (hA.out.below HB25.out).2.2
      exact ⟨rfl, hA5.trans (hw6.mono hA5.size)⟩
    · have q1 : (t : Int) < (n : Int) := by omega
      have HT : Hid (t < n) := by show t < n; omega
      obtain ⟨b, off, A, L, C, l, rfl, hls, c0, harg⟩ := HL.out.row t HT.out
      have c1 : wr.cell? ⟨b, off + t, none⟩ = some (.slice A L C) := (hA.out.2.2.cell (p := ⟨b, off + t, none⟩) (World.block_lt_of_cell? w _ c0)).trans c0
      have hLb : l.length ≤ 140737488355328 := HLS.out l (List.mem_of_getElem? hls)
      have HLL : Hid (l.length = L) := harg.1
      have HGW : Hid (In w A L C l) := harg.toIn (by rw [← harg.1]; exact hLb)
      have HG : Hid (In wr A L C l) := HGW.out.below hA.out.2.2
      have hLI : (L : Int) ≤ 140737488355328 := by have := HLL.out; omega
      clear hls harg hLb hlt c0
      by_cases hov : 5000 < m + L
      · have q2 : (5000 : Int) < (m : Int) + (L : Int) := by omega
        go_wp2_with fail
        refine (dsum_is' w.heap.size M D HD.out wr HKR.out hA.out.1 HM9.out).mono ?_
        rintro e w2 ⟨rfl, HB2⟩
        go_wp2_with fail
        refine (sum_is' M D HD.out av m cv w2 (HKR.out.below HB2.out) (HSR.out.below HB2.out) (HV.out.below HB2.out) (by omega)).mono ?_
        rintro e w3 ⟨rfl, HB3⟩
        have HB23 : Hid (Below wr.heap.size wr w3) := HB2.out.trans (HB3.out.mono HB2.out.size)
        go_wp2_with fail
        refine (dsum_is' w.heap.size M D HD.out w3 (HKR.out.below HB23.out) (hA.out.below HB23.out).1 HM9.out).mono ?_
        rintro e w4 ⟨rfl, HB4⟩
        have HB24 : Hid (Below wr.heap.size wr w4) := HB23.out.trans (HB4.out.mono HB23.out.size)
        go_wp2_with fail
        refine (refIs M D HD.out av m cv w4 (HV.out.below HB24.out) (by omega)).mono ?_
        rintro e w5 ⟨rfl, HB5⟩
        have HB25 : Hid (Below wr.heap.size wr w5) := HB24.out.trans (HB5.out.mono HB24.out.size)
        go_wp2_with (go_at_call 8; refine (lives_is w5 (HKR.out.below HB25.out) (HSR.out.below HB25.out)).mono ?_; rintro e w6 ⟨rfl, hw6⟩)
        go_ret
        have hA5 := (hA.out.below HB25.out).2.2
        exact ⟨rfl, hA5.trans (hw6.mono hA5.size)⟩
      · have q2 : (m : Int) + (L : Int) ≤ 5000 := by omega
        have HN5 : Hid (m + L ≤ 5000) := by show _ ≤ _; omega
        clear hov hLI
        have H0 : Hid ((wr.alloc (.cells #[] 5)).ownsRow wr.heap.size 5 1 (.slice (some ⟨wr.heap.size, 0, none⟩) 0 0) 0 (U [])) := World.ownsRow_made wr #[] 0 (Nat.le_refl _) (by unfold maxLen; omega) rfl
        have HB0 : Hid (Below wr.heap.size wr (wr.alloc (.cells #[] 5))) := (Below.refl _ _).alloc (Nat.le_refl _) _
        go_wp2_with (at_builtin; refine wpList_append_in _ rfl (.tmp 38) (.tmp 39) 22 rfl wr.heap.size 5 i0 Tryd.underlying22 hi hz0 hz1 hz2 _ [] 0 rfl rfl H0.out A L C l rfl (HG.out.below HB0.out) (by have := HN5.out; omega) HB0.out.size ?_)
        intro vg w2 ho2 hg2
        have HB2 : Hid (Below wr.heap.size wr w2) := HB0.out.grown hg2 HB0.out.size (by intro b hb; simp [Value.ownBlock] at hb; omega)
        have HO2 : Hid (Own 5 wr.heap.size w2 vg l) := ho2
        obtain ⟨ag, cg, rfl, hin2, hag⟩ := own_in ho2 (by rw [HLL.out]; have := HN5.out; omega)
        rw [HLL.out] at hin2 HO2 ⊢
        have hdl := hA.out.1.lt
        have HX2 : Hid (InX w.heap.size w2 ag L cg l) := ⟨hin2, fun hp x hx => by
          obtain ⟨g, e1, e2, -⟩ := hag (by rw [HLL.out]; exact hp)
          rw [hx] at e1
          obtain rfl := Option.some.inj e1
          show g ≠ _
          omega⟩
        clear ho2 hg2 hin2 hag hdl
        go_wp2_with fail
        refine (write_is w.heap.size M l ag L cg w2 (HKR.out.below HB2.out) (by have := HK.out.1; omega) (hA.out.below HB2.out).1 HX2.out (by have := HN5.out; rw [HMM.out]; omega)).mono ?_
        rintro e w3 ⟨rfl, hd3, hg3⟩
        have HD3 : Hid (Dig w3 w.heap.size (M ++ l)) := hd3
        have HG3 : Hid (w2.grownBy w3 (some w.heap.size)) := hg3
        have hdl := hA.out.1.lt
        have HO3 : Hid (Own 5 wr.heap.size w3 (.slice ag L cg) l) := HO2.out.block fun g e1 e2 => hg3.block g e2 (by simp; omega)
        clear hd3 hg3 hdl
        go_wp2_with fail
        obtain ⟨W0, hW0⟩ : ∃ W0, W0 = wr := ⟨_, rfl⟩
        subst hW0
        go_loopw [47] (fun i wi => ∃ (s : Nat) (xs : List UInt8), i = .int .i64 s ∧ s ≤ L ∧ Hid (xs.length = L) ∧ Hid (Own 5 W0.heap.size wi (.slice ag L cg) xs) ∧ Hid (Below W0.heap.size w3 wi)) (fun i _ => L - (intOf i).toNat)
        case atStart => exact ⟨0, l, rfl, by omega, HLL.out, HO3.out, Below.refl _ _⟩
        case round =>
          obtain ⟨s, xs, rfl, hsl, hxl, hox, hbx⟩ := hrel
          by_cases hsL : s = L
          · have hsL' := hsL.symm
            subst hsL'
            obtain ⟨hD4, hO4, hB4⟩ := hA.out.wrote HB2.out HD3.out HG3.out hbx.out
            have HD4 : Hid (Dig wr w.heap.size (M ++ l)) := hD4
            have HO4 : Hid (Own 5 (w.heap.size + 1) wr (.slice av m cv) M) := hO4
            have HB4 : Hid (Below w.heap.size w wr) := hB4
            clear hD4 hO4 hB4
            go_wp2_with (at_builtin; refine wpList_append_in _ rfl (.tmp 57) (.tmp 58) 22 rfl (w.heap.size + 1) 5 i0 Tryd.underlying22 hi hz0 hz1 hz2 _ M m HMM.out rfl (own_size HMM.out HO4.out) A L C l rfl (HGW.out.below HB4.out) (by have := HN5.out; omega) HD4.out.lt ?_)
            intro v5 w5 ho5 hg5
            have hA5 : At w v5 (M ++ l) w5 := At.appended HD4.out HO4.out HB4.out ho5 hg5
            have hlen : (M ++ l).length ≤ 5000 := by rw [List.length_append, HMM.out, HLL.out]; exact HN5.out
            clear ho5 hg5
            generalize M ++ l = M5 at hA5 hlen
            obtain ⟨a5, c5, rfl, -, -⟩ := own_in hA5.2.1 (by omega)
            obtain ⟨m5, hm5'⟩ : ∃ m5, m5 = M5.length := ⟨_, rfl⟩
            have HM5L : Hid (M5.length = m5) := hm5'.symm
            have hm55 : m5 ≤ 5000 := by rw [hm5']; exact hlen
            rw [← hm5'] at hA5 ⊢
            have HA5 : Hid (At w (.slice a5 m5 c5) M5 w5) := hA5
            have HM59 : Hid (M5.length < 900000000000) := by show _ < _; omega
            have HV5 : Hid (∀ W W', At w (.slice a5 m5 c5) M5 W → Below W.heap.size W W' → In W' a5 m5 c5 M5) := by
              intro W W' hh hb
              obtain ⟨a', c', e', h', -⟩ := own_in (hh.below hb).2.1 (by rw [HM5L.out]; omega)
              rw [HM5L.out] at e' h'
              obtain ⟨rfl, -, rfl⟩ := Value.slice.inj e'
              exact h'
            obtain ⟨D5, hD5⟩ : ∃ D5, sum M5 = D5 := ⟨_, rfl⟩
            have HD5 : Hid (sum M5 = D5) := hD5
            have hq5 := eq_same D5 (by rw [← hD5]; exact sum_length M5)
            clear hm5' hA5 hlen hD5 hq
            by_cases hat : (t : Int) = k
            · subst hat
              obtain ⟨D6, hD6⟩ : ∃ D6, sum (M5 ++ [120]) = D6 := ⟨_, rfl⟩
              have HD6 : Hid (sum (M5 ++ [120]) = D6) := hD6
              have hq6 := eq_same D6 (by rw [← hD6]; exact sum_length _)
              clear hD6
              go_wp2_with fail
              refine (clone_is w.heap.size M5 w5 HA5.out.1).mono ?_
              rintro e w6 ⟨rfl, hd6, hw6⟩
              have HC6 : Hid (Dig w6 w5.heap.size M5) := hd6
              have HW6 : Hid (Below w5.heap.size w5 w6) := hw6
              clear hd6 hw6
              have hcv := Lib.run_convert_bytes_const (P := Tryd.prog) w6 22 5 #[.int .u8 120] 1 1 Tryd.underlying22 Tryd.underlying5
              go_wp2_with fail
              clear hcv
              have hlt6 := HC6.out.lt
              have HINA : Hid (In (w6.alloc (.cells (U [120]).toArray 5 (1, 2))) (some ⟨w6.heap.size, 0, none⟩) 1 1 [120]) := in_const w6 5 [120] (1, 2) (by simp)
              have HWA : Hid (Below w5.heap.size w5 (w6.alloc (.cells (U [120]).toArray 5 (1, 2)))) := HW6.out.alloc HW6.out.size _
              have HCA : Hid (Dig (w6.alloc (.cells (U [120]).toArray 5 (1, 2))) w5.heap.size M5) := HC6.out.below ((Below.refl w6.heap.size w6).alloc (Nat.le_refl _) _) hlt6
              have HNE : Hid (w6.heap.size ≠ w5.heap.size) := by show _ ≠ _; omega
              have HLA : Hid (w5.heap.size ≤ (w6.alloc (.cells (U [120]).toArray 5 (1, 2))).heap.size) := by show _ ≤ _; simp; omega
              clear hlt6
              change Calls Tryd.prog 12 _ (w6.alloc (.cells (U [120]).toArray 5 (1, 2))) _
              generalize w6.alloc (.cells (U [120]).toArray 5 (1, 2)) = WA at *
              refine (write_is w5.heap.size M5 [120] _ 1 1 WA (HK.out.below (HA5.out.below HWA.out).2.2) (by have := HK.out.1; have := HA5.out.1.lt; omega) HCA.out ⟨HINA.out, fun _ x hx => by obtain rfl := Option.some.inj hx; exact HNE.out⟩ (by have := HM59.out; omega)).mono ?_
              rintro e w7 ⟨rfl, hd7, hg7⟩
              have HD7 : Hid (Dig w7 w5.heap.size (M5 ++ [120])) := hd7
              have HW7 : Hid (Below w5.heap.size w5 w7) := HWA.out.grown hg7 HLA.out (fun k hk => by have := Option.some.inj hk; omega)
              clear hd7 hg7
              go_wp2_with fail
              refine (dsum_is' w5.heap.size (M5 ++ [120]) D6 HD6.out w7 (HK.out.below (HA5.out.below HW7.out).2.2) HD7.out (by have := HM59.out; have := HM5L.out; simp; omega)).mono ?_
              rintro e w8 ⟨rfl, HB8⟩
              have HW8 : Hid (Below w5.heap.size w5 w8) := HW7.out.trans (HB8.out.mono HW7.out.size)
              have H80 : Hid ((w8.alloc (.cells #[] 5)).ownsRow w8.heap.size 5 1 (.slice (some ⟨w8.heap.size, 0, none⟩) 0 0) 0 (U [])) := World.ownsRow_made w8 #[] 0 (Nat.le_refl _) (by unfold maxLen; omega) rfl
              have HB80 : Hid (Below w8.heap.size w8 (w8.alloc (.cells #[] 5))) := (Below.refl _ _).alloc (Nat.le_refl _) _
              go_wp2_with (at_builtin; refine wpList_append_want _ (by rfl) (.tmp 77) (.tmp 78) 22 rfl w8.heap.size 5 i0 Tryd.underlying22 hi hz0 hz1 hz2 _ [] 0 rfl rfl H80.out a5 m5 c5 M5 rfl (HV5.out w8 _ (HA5.out.below HW8.out) HB80.out) (by omega) HB80.out.size ?_)
              intro v9 w9 ho9 hg9
              have HB9 : Hid (Below w8.heap.size w8 w9) := HB80.out.grown hg9 HB80.out.size (by intro b hb; simp [Value.ownBlock] at hb; omega)
              have HA9 : Hid ((w9.alloc (.cells (U [120]).toArray 5)).ownsRow w8.heap.size 5 1 v9 m5 (U M5)) := own_size HM5L.out (ho9.below ((Below.refl w9.heap.size w9).alloc (Nat.le_refl _) _) (Nat.le_refl _))
              have HI9 : Hid (In (w9.alloc (.cells (U [120]).toArray 5)) (some ⟨w9.heap.size, 0, none⟩) 1 1 [120]) := in_new w9 5 [120] (by simp)
              have HB9A : Hid (Below w8.heap.size w8 (w9.alloc (.cells (U [120]).toArray 5))) := HB9.out.alloc HB9.out.size _
              clear ho9 hg9
              go_wp2_with (at_builtin; refine wpList_append_want _ (by rfl) (.tmp 79) (.tmp 80) 22 rfl w8.heap.size 5 i0 Tryd.underlying22 hi hz0 hz1 hz2 _ M5 m5 HM5L.out rfl HA9.out (some ⟨w9.heap.size, 0, none⟩) 1 1 [120] rfl HI9.out (by omega) HB9A.out.size ?_)
              intro v10 w10 ho10 hg10
              have HB10 : Hid (Below w8.heap.size w8 w10) := HB9A.out.grown hg10 HB9A.out.size (fun k hk => (World.ownsRow.lt HA9.out k hk).1)
              have hl10 : (M5 ++ [120]).length = m5 + 1 := by simp; exact HM5L.out
              obtain ⟨a10, c10, rfl, hin10, -⟩ := own_in ho10 (by rw [hl10]; omega)
              rw [hl10] at hin10 ⊢
              have HI10 : Hid (In w10 a10 (m5 + 1) c10 (M5 ++ [120])) := hin10
              have HW10 : Hid (Below w5.heap.size w5 w10) := HW8.out.trans (HB10.out.mono HW8.out.size)
              clear hl10 hin10 ho10 hg10
              go_wp2_with fail
              refine (sum_is' (M5 ++ [120]) D6 HD6.out a10 (m5 + 1) c10 w10 (HK.out.below (HA5.out.below HW10.out).2.2) (HS.out.below (HA5.out.below HW10.out).2.2) HI10.out (by omega)).mono ?_
              rintro e w11 ⟨rfl, HB11⟩
              have HA11 : Hid (At w (.slice a5 m5 c5) M5 w11) := (HA5.out.below HW10.out).below HB11.out
              clear HINA HCA HNE HLA HD7 H80 HA9 HI9
              by_cases h3 : t % 3 = 0
              · have q4 : Int.tmod (t : Int) 3 = 0 := by rw [Int.tmod_eq_emod_of_nonneg (by omega)]; omega
                go_wp2_with fail
                refine (dsum_is' w.heap.size M5 D5 HD5.out w11 (HK.out.below HA11.out.2.2) HA11.out.1 HM59.out).mono ?_
                rintro e wx ⟨rfl, HBX⟩
                go_wp2_with fail
                refine (sum_is' M5 D5 HD5.out a5 m5 c5 wx (HK.out.below (HA11.out.below HBX.out).2.2) (HS.out.below (HA11.out.below HBX.out).2.2) (HV5.out w11 wx HA11.out HBX.out) (by omega)).mono ?_
                rintro e wy ⟨rfl, HBY⟩
                have HAY : Hid (At w (.slice a5 m5 c5) M5 wy) := (HA11.out.below HBX.out).below HBY.out
                go_wp2_with fail
                refine ⟨⟨t + 1, M5, by simp, HT.out, (show _ ≤ _ by rw [HM5L.out]; exact hm55), HAY⟩, ?_⟩
                have := HT.out
                simp only [intOf]
                omega
              · have q4 : Int.tmod (t : Int) 3 ≠ 0 := by rw [Int.tmod_eq_emod_of_nonneg (by omega)]; omega
                go_wp2_with fail
                refine ⟨⟨t + 1, M5, by simp, HT.out, (show _ ≤ _ by rw [HM5L.out]; exact hm55), HA11⟩, ?_⟩
                have := HT.out
                simp only [intOf]
                omega
            · by_cases h3 : t % 3 = 0
              · have q4 : Int.tmod (t : Int) 3 = 0 := by rw [Int.tmod_eq_emod_of_nonneg (by omega)]; omega
                go_wp2_with fail
                refine (dsum_is' w.heap.size M5 D5 HD5.out w5 (HK.out.below HA5.out.2.2) HA5.out.1 HM59.out).mono ?_
                rintro e wx ⟨rfl, HBX⟩
                go_wp2_with fail
                refine (sum_is' M5 D5 HD5.out a5 m5 c5 wx (HK.out.below (HA5.out.below HBX.out).2.2) (HS.out.below (HA5.out.below HBX.out).2.2) (HV5.out w5 wx HA5.out HBX.out) (by omega)).mono ?_
                rintro e wy ⟨rfl, HBY⟩
                have HAY : Hid (At w (.slice a5 m5 c5) M5 wy) := (HA5.out.below HBX.out).below HBY.out
                go_wp2_with fail
                refine ⟨⟨t + 1, M5, by simp, HT.out, (show _ ≤ _ by rw [HM5L.out]; exact hm55), HAY⟩, ?_⟩
                have := HT.out
                simp only [intOf]
                omega
              · have q4 : Int.tmod (t : Int) 3 ≠ 0 := by rw [Int.tmod_eq_emod_of_nonneg (by omega)]; omega
                go_wp2_with fail
                refine ⟨⟨t + 1, M5, by simp, HT.out, (show _ ≤ _ by rw [HM5L.out]; exact hm55), HA5⟩, ?_⟩
                have := HT.out
                simp only [intOf]
                omega
          · have q3 : (s : Int) < (L : Int) := by omega
            have HSL : Hid (s < L) := by show s < L; omega
            obtain ⟨g, cc, e1, hgB, -⟩ := Own.shape hox.out (by rw [hxl.out]; have := HSL.out; omega)
            obtain ⟨rfl, -, -⟩ := Value.slice.inj e1
            have htl : s < xs.length := by rw [hxl.out]; exact HSL.out
            obtain ⟨c2, c3, -, hset⟩ := own_set hox.out hxl.out s htl
            have hset1 := hset (xs[s] ^^^ 85)
            have hx85 := xor_85 xs[s]
            generalize xs[s] = y at c2 hset1 hx85
            generalize y ^^^ 85 = z at hset1 hx85
            have HOS : Hid (Own 5 W0.heap.size (wr.setCell ⟨g, s, none⟩ (.int .u8 (z.toNat : Int))) (.slice (some ⟨g, 0, none⟩) L cg) (xs.set s z)) := hset1
            have HBS : Hid (Below W0.heap.size w3 (wr.setCell ⟨g, s, none⟩ (.int .u8 (z.toNat : Int)))) := hbx.out.setCell hgB _
            clear hset hset1 hsL htl hgB e1
            go_wp2
            refine ⟨⟨s + 1, xs.set s z, by simp, HSL.out, (show _ = _ by rw [List.length_set]; exact hxl.out), HOS, HBS⟩, ?_⟩
            have := HSL.out
            simp only [intOf]
            omega
#print axioms piecesLaw
end Go.Proofs.YtgpndgajmmbjhabDoor.Oct
