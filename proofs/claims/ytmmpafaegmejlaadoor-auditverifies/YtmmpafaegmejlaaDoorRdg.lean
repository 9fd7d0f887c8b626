/-
  Layer 19 (audit): the reference's Digest and Head.
-/
import Derived.Test.YtmmpafaegmejlaaDoorRdr
namespace Go.Proofs.YtmmpafaegmejlaaDoor.Oct
open Go.RowKit Sha
set_option linter.unusedSimpArgs false
set_option linter.unusedVariables false

set_option maxRecDepth 100000 in
set_option maxHeartbeats 2000000 in
theorem refDigest_is (e : En) (he : e.ok) (hz : e.who.size + e.what.size ≤ 200000) (D : List UInt8) (hD : dgE e = D) (w : World) : Calls Tryd.prog 21 #[.agg e.cells.toArray] w fun r w' => r = .returned (.agg (U D).toArray) ∧ Below w.heap.size w w' := by
  obtain ⟨Z, hZ, HZ⟩ := zero35
  obtain ⟨i0, hi, hz0, hz1, hz2⟩ := u8info
  obtain ⟨b, hb⟩ : ∃ b, w.heap.size = b := ⟨_, rfl⟩
  obtain ⟨C, hC⟩ : ∃ C, e.cells = C := ⟨_, rfl⟩
  obtain ⟨A1, hA1⟩ : ∃ A, w.alloc (.cells C.toArray 37) = A := ⟨_, rfl⟩
  obtain ⟨r, hr⟩ : ∃ r, A1.heap.size = r := ⟨_, rfl⟩
  obtain ⟨A, hA⟩ : ∃ A, A1.alloc (.cells Z.toArray 35) = A := ⟨_, rfl⟩
  have hB1 : Below w.heap.size w A1 := by rw [← hA1]; exact below_al _ _
  have hB2 : Below A1.heap.size A1 A := by rw [← hA]; exact below_al _ _
  have hBA := below_tr hB1 hB2
  have h1 : Blk A1 b 37 C := by rw [← hA1, ← hb]; exact Blk.new w _ _
  have h2 : Blk A b 37 C := h1.below hB2 h1.lt
  have h3 : Blk A r 35 Z := by rw [← hA, ← hr]; exact Blk.new A1 _ _
  have HA : Hid (Below w.heap.size w A ∧ Blk A b 37 C ∧ Blk A r 35 Z ∧ w.heap.size ≤ r) := ⟨hBA, h2, h3, by have := hB1.size; omega⟩
  obtain ⟨S, hS⟩ : ∃ S, max e.seq 0 = S := ⟨_, rfl⟩
  obtain ⟨T, hT⟩ : ∃ S, max e.tick 0 = S := ⟨_, rfl⟩
  have k0 : A.cell? ⟨b, 0, none⟩ = some (iv e.seq) := h2.cell (by rw [← hC]; rfl)
  have k1 : A.cell? ⟨b, 1, none⟩ = some (iv e.tick) := h2.cell (by rw [← hC]; rfl)
  have HE : Hid (e.ok ∧ e.cells = C ∧ max e.seq 0 = S ∧ max e.tick 0 = T ∧ e.who.size + e.what.size ≤ 200000 ∧ dgE e = D ∧ D.length = 32) := ⟨he, hC, hS, hT, hz, hD, by rw [← hD]; exact dgE_len e⟩
  have q1 : 0 ≤ S := by omega
  have q2 : S ≤ 9223372036854775807 := by have := he.2.1; omega
  have q3 : 0 ≤ T := by omega
  have q4 : T ≤ 9223372036854775807 := by have := he.2.2.1; omega
  obtain ⟨l1, hl1⟩ : ∃ l, [] ++ enc S.toNat = l := ⟨_, rfl⟩
  obtain ⟨l2, hl2⟩ : ∃ l, l1 ++ enc T.toNat = l := ⟨_, rfl⟩
  obtain ⟨l3, hl3⟩ : ∃ l, l2 ++ enc e.who.size ++ e.who.data.toList = l := ⟨_, rfl⟩
  obtain ⟨l4, hl4⟩ : ∃ l, l3 ++ enc e.what.size ++ e.what.data.toList = l := ⟨_, rfl⟩
  obtain ⟨n1, hn1⟩ : ∃ n, l1.length = n := ⟨_, rfl⟩
  obtain ⟨n2, hn2⟩ : ∃ n, l2.length = n := ⟨_, rfl⟩
  obtain ⟨n3, hn3⟩ : ∃ n, l3.length = n := ⟨_, rfl⟩
  obtain ⟨n4, hn4⟩ : ∃ n, l4.length = n := ⟨_, rfl⟩
  have z1 : n1 ≤ 10 := by rw [← hn1, ← hl1, List.nil_append]; exact enc_le _ (by omega)
  have z2 : n2 ≤ 20 := by rw [← hn2, ← hl2, List.length_append, hn1]; have := enc_le T.toNat (by omega); omega
  have z3 : n3 ≤ 30 + e.who.size := by
    rw [← hn3, ← hl3, List.length_append, List.length_append, hn2]
    have := enc_le e.who.size (by omega)
    have h3 : e.who.data.toList.length = e.who.size := rfl
    omega
  have z4 : n4 ≤ 40 + e.who.size + e.what.size := by
    rw [← hn4, ← hl4, List.length_append, List.length_append, hn3]
    have := enc_le e.what.size (by omega)
    have h3 : e.what.data.toList.length = e.what.size := rfl
    omega
  have eL : l4 ++ e.prev = dgB e := by
    unfold dgB
    rw [hS, hT, ← hl4, ← hl3, ← hl2, ← hl1]
    simp only [List.append_assoc, List.nil_append]
  have HF1 : Hid (∀ V, Calls Tryd.prog 34 #[iv e.seq] V fun x V2 => x = .returned (.int .u64 S) ∧ V = V2) := fun V => from0_is e.seq S hS he.2.1 V
  have HF2 : Hid (∀ V, Calls Tryd.prog 34 #[iv e.tick] V fun x V2 => x = .returned (.int .u64 T) ∧ V = V2) := fun V => from0_is e.tick T hT he.2.2.1 V
  have HP1 : Hid (∀ V, Calls Tryd.prog 33 #[.slice none 0 0, .int .u64 S] V fun x V2 => Mk V V2 x n1 l1) := fun V => refPutN S (In.nil V) q1 (by omega) (by omega) l1 hl1 n1 hn1
  have HP2 : Hid (∀ V g c, In V (some ⟨g, 0, none⟩) n1 c l1 → Calls Tryd.prog 33 #[.slice (some ⟨g, 0, none⟩) n1 c, .int .u64 T] V fun x V2 => Mk V V2 x n2 l2) := fun V g c h => refPutN T h q3 (by omega) (by omega) l2 hl2 n2 hn2
  have HT1 : Hid (∀ V g c, In V (some ⟨g, 0, none⟩) n2 c l2 → Calls Tryd.prog 35 #[.slice (some ⟨g, 0, none⟩) n2 c, .string e.who] V fun x V2 => Mk V V2 x n3 l3) := fun V g c h => refTextN e.who h (by omega) l3 hl3 n3 hn3
  have HT2 : Hid (∀ V g c, In V (some ⟨g, 0, none⟩) n3 c l3 → Calls Tryd.prog 35 #[.slice (some ⟨g, 0, none⟩) n3 c, .string e.what] V fun x V2 => Mk V V2 x n4 l4) := fun V g c h => refTextN e.what h (by omega) l4 hl4 n4 hn4
  have HL4 : Hid (l4.length = n4 ∧ n4 ≤ 40 + e.who.size + e.what.size ∧ l4 ++ e.prev = dgB e) := ⟨hn4, z4, eL⟩
  have HLB : Hid (b < A.heap.size) := h2.lt
  rw [hC]
  clear hB1 hB2 hBA h1 h2 h3 he hz hD hC hS hT hl1 hl2 hl3 hl4 hn1 hn2 hn3 hn4 z1 z2 z3 z4 eL
  go_enter Tryd.func21, Tryd.ntmps21
  go_wp2_with fail
  refine rd1 HLB k0 k1 HF1 HF2 HP1 HP2 ?_
  intro V1 g1 c1 g2 c2 hb1 hi1
  have H1 : Hid (Below A.heap.size A V1 ∧ In V1 (some ⟨g2, 0, none⟩) n2 c2 l2) := ⟨hb1, hi1⟩
  have k2 : V1.cell? ⟨b, 2, none⟩ = some (.string e.who) := (H1.out.1.cell (p := ⟨b, 2, none⟩) HLB.out).trans (HA.out.2.1.cell (by rw [← HE.out.2.1]; rfl))
  have k3 : V1.cell? ⟨b, 3, none⟩ = some (.string e.what) := (H1.out.1.cell (p := ⟨b, 3, none⟩) HLB.out).trans (HA.out.2.1.cell (by rw [← HE.out.2.1]; rfl))
  have HLB1 : Hid (b < V1.heap.size) := Nat.lt_of_lt_of_le HLB.out hb1.size
  have HI1 : Hid (In V1 (some ⟨g2, 0, none⟩) n2 c2 l2) := hi1
  clear hb1 hi1 k0 k1 HF1 HF2 HP1 HP2 hA1 hA hr hb
  go_wp2_with fail
  refine rd2 HLB1 k2 k3 HI1 HT1 HT2 ?_
  intro W4 W3 g3 c3 g4 cp4 hb4 ho4 hs4
  have H4 : Hid (Below A.heap.size A W4 ∧ W4.ownsRow W3.heap.size 5 1 (.slice (some ⟨g4, 0, none⟩) n4 cp4) n4 (U l4) ∧ A.heap.size ≤ W3.heap.size) := ⟨below_tr H1.out.1 hb4, ho4, Nat.le_trans H1.out.1.size hs4⟩
  have H4s : Hid (W3.heap.size ≤ W4.heap.size) := by
    rcases ho4.2 with ⟨h, _⟩ | ⟨g, cp, cur, h, hB, hbl, _⟩
    · cases h
    · exact Nat.le_of_lt (Nat.lt_of_le_of_lt hB (lt_of_block hbl))
  have H4b : Hid (Blk W4 b 37 C ∧ Blk W4 r 35 Z) := ⟨HA.out.2.1.below H4.out.1 HA.out.2.1.lt, HA.out.2.2.1.below H4.out.1 HA.out.2.2.1.lt⟩
  have hsl := slice35 b
  clear hb4 ho4 hs4 k2 k3 HI1 HT1 HT2 HLB1
  go_wp2_with (with_reducible change wpList _ _ _ ({ dst := some 22, op := _, type := _, pos := _, after := _, guard := _ } :: _) _ _; refine Hid.out ?_)
  show wpList _ _ _ _ _ _
  refine wpList_append_in _ rfl (.tmp 19) (.tmp 21) 60 rfl W3.heap.size 5 i0 Tryd.underlying60 hi hz0 hz1 hz2 _ l4 n4 HL4.out.1 rfl H4.out.2.1 (some ⟨b, 4, none⟩) 32 32 e.prev rfl ?_ (by have := HL4.out.2.1; have := HE.out.2.2.2.2.1; omega) H4s.out ?_
  · have := in_mid (o := 4) (l := e.prev) H4b.out.1 (by rw [← HE.out.2.1]; show (U e.prev).take _ = _; rw [List.take_of_length_le (by rw [U_length]; exact Nat.le_refl _)]) (by rw [HE.out.1.1]; omega)
    rw [HE.out.1.1] at this
    exact this
  intro v5 W5 ho5 hg5
  have b45 : Below W3.heap.size W4 W5 := ((Below.refl _ W4).mono H4s.out).grown hg5 H4s.out (fun j hj => by cases hj; rcases H4.out.2.1.2 with ⟨h, _⟩ | ⟨g, cp, cur, h, hB, _⟩ <;> cases h; exact hB)
  have b5 : Below A.heap.size A W5 := H4.out.1.trans (b45.mono H4.out.2.2)
  have H5 : Hid (Below w.heap.size w W5 ∧ Blk W5 r 35 Z ∧ w.heap.size ≤ r) := ⟨below_tr HA.out.1 b5, HA.out.2.2.1.below b5 HA.out.2.2.1.lt, HA.out.2.2.2⟩
  have hp5 : 0 < (l4 ++ e.prev).length := by rw [List.length_append, HE.out.1.1]; omega
  obtain ⟨g5, cp5, rfl, _⟩ := ho5.shape hp5
  have hin5 := ho5.toIn (by rw [List.length_append, HE.out.1.1, HL4.out.1]; have := HL4.out.2.1; have := HE.out.2.2.2.2.1; omega)
  obtain ⟨n5, hn5⟩ : ∃ n, (l4 ++ e.prev).length = n := ⟨_, rfl⟩
  rw [hn5] at hin5 ⊢
  have H6 : Hid (In W5 (some ⟨g5, 0, none⟩) n5 cp5 (l4 ++ e.prev) ∧ n5 ≤ 300000 ∧ sum (l4 ++ e.prev) = D) := by
    refine ⟨hin5, ?_, by rw [HL4.out.2.2]; exact HE.out.2.2.2.2.2.1⟩
    rw [← hn5, List.length_append, HE.out.1.1, HL4.out.1]
    have := HL4.out.2.1; have := HE.out.2.2.2.2.1
    omega
  clear ho5 hg5 b45 b5 hp5 hin5 hn5 H4b H4 H1
  go_wp2_with fail
  refine (refIs _ D H6.out.2.2 _ n5 cp5 W5 H6.out.1 H6.out.2.1).mono ?_
  rintro x W6 ⟨rfl, hb6⟩
  have H7 : Hid (Below w.heap.size w W6 ∧ Blk W6 r 35 Z) := ⟨below_tr H5.out.1 hb6.out, H5.out.2.1.below hb6.out H5.out.2.1.lt⟩
  clear hb6 H6
  go_wp2_with (with_reducible change wpList _ _ _ ({ dst := none, op := Op.store 35 _ _, type := _, pos := _, after := _, guard := _ } :: _) _ _; refine Hid.out ?_)
  show wpList _ _ _ _ _ _
  refine wpList_store_blk rfl 35 (.tmp 2) (.tmp 23) rfl r 0 35 Z (U D) rfl rfl H7.out.2 (by rw [HZ.out, U_length, HE.out.2.2.2.2.2.2, zb_length]; exact Nat.le_refl _) (by rw [U_length, HE.out.2.2.2.2.2.2]; exact size35) (U_one _) ?_
  intro W7 hx7 hg7
  have H8 : Hid (Below w.heap.size w W7 ∧ Blk W7 r 35 (U D)) := ⟨below_gr H7.out.1 hg7.out H5.out.2.2, blk_all hx7.out (by rw [HZ.out, U_length, HE.out.2.2.2.2.2.2, zb_length])⟩
  clear hx7 hg7
  go_wp2
  refine ret_c rfl rfl rfl H8.out.2 Tryd.underlying35 rfl (by rw [U_length, HE.out.2.2.2.2.2.2]; exact size35) ⟨rfl, H8.out.1⟩
#print axioms refDigest_is
def En.rz (e : En) : Prop := e.who.size + e.what.size ≤ 200000
theorem lastE_at {l : List En} {n : Nat} (h : l.length = n) (hp : 0 < n) : l[n - 1]? = some (lastE l) := by
  unfold lastE
  rw [List.getLast?_eq_getElem?, h]
  rw [List.getElem?_eq_getElem (by omega)]
  rfl
set_option maxRecDepth 100000 in
set_option maxHeartbeats 2000000 in
theorem refHead_is {w : World} {v : Value} {l : List En} (h : EsR w v l) (hl : l.length ≤ 1000000) (hz : ∀ e ∈ l, e.rz) (D : List UInt8) (hD : hdE l = D) : Calls Tryd.prog 17 #[v] w fun r w' => r = .returned (.agg (U D).toArray) ∧ Below w.heap.size w w' := by
  obtain ⟨hok, a, cap, rfl, hle, hcap, hr⟩ := h
  obtain ⟨n, hn⟩ : ∃ n, l.length = n := ⟨_, rfl⟩
  rw [hn] at hr ⊢
  have qn : (n : Int) ≤ 1000000 := by omega
  obtain ⟨Z, hZ, HZ⟩ := zero35
  obtain ⟨r, hrr⟩ : ∃ r, w.heap.size = r := ⟨_, rfl⟩
  obtain ⟨A, hA⟩ : ∃ A, w.alloc (.cells Z.toArray 35) = A := ⟨_, rfl⟩
  have hb1 : Below w.heap.size w A := by rw [← hA]; exact below_al _ _
  have hrb : Blk A r 35 Z := by rw [← hA, ← hrr]; exact Blk.new w _ _
  have HD : Hid (D.length = 32 ∧ hdE l = D) := ⟨by rw [← hD]; exact hdE_len l, hD⟩
  by_cases hn0 : n = 0
  · subst hn0
    have hl0 : l = [] := List.length_eq_zero_iff.1 hn
    have HB5 : Tryd.prog.built 35 [] = some (U D).toArray := by
      rw [← hD, hl0]; exact built35U
    have H : Hid (Below w.heap.size w A ∧ Blk A r 35 Z ∧ w.heap.size ≤ r) := ⟨hb1, hrb, by omega⟩
    clear hb1 hrb hok hle hcap hr hn hl hz hD hl0
    go_enter Tryd.func17, Tryd.ntmps17
    go_wp2_with (with_reducible change wpList _ _ _ ({ dst := some 6, op := _, type := _, pos := _, after := _, guard := _ } :: _) _ _; refine Hid.out ?_)
    show wpList _ _ _ _ _ _
    refine wpList_built rfl 35 _ rfl (U D).toArray (by rw [← HB5]; simp) ?_
    go_wp2_with (with_reducible change wpList _ _ _ ({ dst := none, op := Op.store 35 _ _, type := _, pos := _, after := _, guard := _ } :: _) _ _; refine Hid.out ?_)
    show wpList _ _ _ _ _ _
    refine wpList_store_blk rfl 35 (.tmp 2) (.tmp 6) rfl r 0 35 Z (U D) rfl rfl H.out.2.1 (by rw [HZ.out, U_length, HD.out.1, zb_length]; exact Nat.le_refl _) (by rw [U_length, HD.out.1]; exact size35) (U_one _) ?_
    intro W7 hx7 hg7
    have H8 : Hid (Below w.heap.size w W7 ∧ Blk W7 r 35 (U D)) := ⟨below_gr H.out.1 hg7.out H.out.2.2, blk_all hx7.out (by rw [HZ.out, U_length, HD.out.1, zb_length])⟩
    clear hx7 hg7 hA hrr
    go_wp2
    exact ret_c rfl rfl rfl H8.out.2 Tryd.underlying35 rfl (by rw [U_length, HD.out.1]; exact size35) ⟨rfl, H8.out.1⟩
  · obtain ⟨b, off, rfl, hbl, hel⟩ := hr (by omega)
    have hx := lastE_at hn (by omega)
    obtain ⟨x, hxe⟩ : ∃ x, lastE l = x := ⟨_, rfl⟩
    rw [hxe] at hx
    have hxm := List.mem_of_getElem? hx
    have hne : l ≠ [] := fun h0 => by rw [h0] at hn; exact hn0 hn.symm
    have hdx : dgE x = D := by rw [← hD, hdE, if_neg hne, hxe]
    have H : Hid (Below w.heap.size w A ∧ Blk A r 35 Z ∧ w.heap.size ≤ r ∧ x.ok ∧ x.rz ∧ dgE x = D ∧ A.rangeAt b (off + (n - 1) * 36) x.cells) := ⟨hb1, hrb, by omega, hok x hxm, hz x hxm, hdx, rangeAt_same (hel _ x hx) (hb1.block b hbl)⟩
    obtain ⟨m, hm⟩ : ∃ m, n - 1 = m := ⟨_, rfl⟩
    rw [hm] at H
    have q3 : (n : Int) - 1 = (m : Int) := by omega
    have q4 : (m : Int) < (n : Int) := by omega
    have q5 : m < n := by omega
    have q6 : 0 < (n : Int) := by omega
    clear hb1 hrb hok hle hcap hn hl hz hD hx hxm hne hdx hel hxe hr hm
    go_enter Tryd.func17, Tryd.ntmps17
    go_wp2_with (with_reducible change wpList _ _ _ ({ dst := some 12, op := _, type := _, pos := _, after := _, guard := _ } :: _) _ _; refine Hid.out ?_)
    show wpList _ _ _ _ _ _
    refine wpList_load_mid rfl 37 (.tmp 11) rfl b (off + m * 36) rfl x.cells _ H.out.2.2.2.2.2.2 Tryd.underlying37 rfl (info37 H.out.2.2.2.1) ?_
    go_wp2_with fail
    refine (refDigest_is x H.out.2.2.2.1 H.out.2.2.2.2.1 D H.out.2.2.2.2.2.1 A).mono ?_
    rintro e W6 ⟨rfl, hb6⟩
    have H7 : Hid (Below w.heap.size w W6 ∧ Blk W6 r 35 Z) := ⟨below_tr H.out.1 hb6, H.out.2.1.below hb6 H.out.2.1.lt⟩
    clear hb6
    go_wp2_with (with_reducible change wpList _ _ _ ({ dst := none, op := Op.store 35 _ _, type := _, pos := _, after := _, guard := _ } :: _) _ _; refine Hid.out ?_)
    show wpList _ _ _ _ _ _
    refine wpList_store_blk rfl 35 (.tmp 2) (.tmp 13) rfl r 0 35 Z (U D) rfl rfl H7.out.2 (by rw [HZ.out, U_length, HD.out.1, zb_length]; exact Nat.le_refl _) (by rw [U_length, HD.out.1]; exact size35) (U_one _) ?_
    intro W7 hx7 hg7
    have H8 : Hid (Below w.heap.size w W7 ∧ Blk W7 r 35 (U D)) := ⟨below_gr H7.out.1 hg7.out H.out.2.2.1, blk_all hx7.out (by rw [HZ.out, U_length, HD.out.1, zb_length])⟩
    clear hx7 hg7 hA hrr
    go_wp2
    exact ret_c rfl rfl rfl H8.out.2 Tryd.underlying35 rfl (by rw [U_length, HD.out.1]; exact size35) ⟨rfl, H8.out.1⟩
#print axioms refHead_is
end Go.Proofs.YtmmpafaegmejlaaDoor.Oct
