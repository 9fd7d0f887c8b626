/-
  Layer 19 (audit): Digest.
-/
import Derived.Test.YtmmpafaegmejlaaDoorEnt
namespace Go.Proofs.YtmmpafaegmejlaaDoor.Oct
open Go.RowKit Sha
set_option linter.unusedSimpArgs false
set_option linter.unusedVariables false

theorem in_mid {w : World} {b o : Nat} {t : TypeId} {L : List Value} {l : List UInt8} (h : Blk w b t L) (hl : (L.drop o).take l.length = U l) (hn : l.length ≤ 140737488355328) : In w (some ⟨b, o, none⟩) l.length l.length l := by
  refine ⟨rfl, Nat.le_refl _, hn, by simp, fun _ => ⟨b, o, rfl, h.lt, fun i c hc => ?_⟩⟩
  have hr := h.range o l.length
  rw [hl] at hr
  refine hr i _ ?_
  simp [U, hc]
theorem slice35 (b : Nat) (W : World) : (Instr.sliceAt 35 (.pointer (some ⟨b, 4, none⟩)) none none none).run Tryd.prog W = .ok (.slice (some ⟨b, 4, none⟩) 32 32) W := by kernel_rfl
theorem u8info : ∃ i, Tryd.prog.info? 5 = some i ∧ i.zero = some (.int .u8 0) ∧ i.size = 1 ∧ i.bytes = 1 := by
  have h : (Tryd.prog.info? 5).map (fun i => (i.zero, i.size, i.bytes)) = some (some (.int .u8 0), 1, 1) := by kernel_rfl
  obtain ⟨i, hi, he⟩ := Option.map_eq_some_iff.1 h
  simp only [Prod.mk.injEq] at he
  exact ⟨i, hi, he.1, he.2.1, he.2.2⟩
set_option maxRecDepth 100000 in
set_option maxHeartbeats 2000000 in
theorem digest_is (e : En) (he : e.ok) (hz : e.who.size + e.what.size ≤ 400000000) (D : List UInt8) (hD : dgE e = D) (w : World) (hk : KT w) (hs : ST w) : Calls Tryd.prog 20 #[.agg e.cells.toArray] w fun r w' => r = .returned (.agg (U D).toArray) ∧ Below w.heap.size w w' := by
  obtain ⟨Z, hZ, HZ⟩ := zero35
  obtain ⟨i0, hi, hz0, hz1, hz2⟩ := u8info
  obtain ⟨b, hb⟩ : ∃ b, w.heap.size = b := ⟨_, rfl⟩
  obtain ⟨C, hC⟩ : ∃ C, e.cells = C := ⟨_, rfl⟩
  obtain ⟨A1, hA1⟩ : ∃ A, w.alloc (.cells C.toArray 37) = A := ⟨_, rfl⟩
  obtain ⟨r, hr⟩ : ∃ r, A1.heap.size = r := ⟨_, rfl⟩
  obtain ⟨A, hA⟩ : ∃ A, A1.alloc (.cells Z.toArray 35) = A := ⟨_, rfl⟩
  have hB1 : Below w.heap.size w A1 := by rw [← hA1]; exact below_al _ _
  have hB2 : Below A1.heap.size A1 A := by rw [← hA]; exact below_al _ _
  have hBA := below_tr hB1 hB2
  have h1 : Blk A1 b 37 C := by rw [← hA1, ← hb]; exact Blk.new w _ _
  have h2 : Blk A b 37 C := h1.below hB2 h1.lt
  have h3 : Blk A r 35 Z := by rw [← hA, ← hr]; exact Blk.new A1 _ _
  have HA : Hid (Below w.heap.size w A ∧ Blk A b 37 C ∧ Blk A r 35 Z ∧ KT A ∧ ST A ∧ w.heap.size ≤ r) := ⟨hBA, h2, h3, hk.below hBA, hs.below hBA, by have := hB1.size; omega⟩
  obtain ⟨S, hS⟩ : ∃ S, max e.seq 0 = S := ⟨_, rfl⟩
  obtain ⟨T, hT⟩ : ∃ S, max e.tick 0 = S := ⟨_, rfl⟩
  have c0 : A.cell? ⟨b, 0, none⟩ = some (iv e.seq) := h2.cell (by rw [← hC]; rfl)
  have c1 : A.cell? ⟨b, 1, none⟩ = some (iv e.tick) := h2.cell (by rw [← hC]; rfl)
  have HE : Hid (e.ok ∧ e.cells = C ∧ max e.seq 0 = S ∧ max e.tick 0 = T ∧ e.who.size + e.what.size ≤ 400000000 ∧ dgE e = D ∧ D.length = 32) := ⟨he, hC, hS, hT, hz, hD, by rw [← hD]; exact dgE_len e⟩
  have q1 : 0 ≤ S := by omega
  have q2 : S ≤ 9223372036854775807 := by have := he.2.1; omega
  have q3 : 0 ≤ T := by omega
  have q4 : T ≤ 9223372036854775807 := by have := he.2.2.1; omega
  rw [hC]
  clear hB1 hB2 hBA h1 h2 h3 hk hs he hz hD hC
  go_enter Tryd.func20, Tryd.ntmps20
  go_wp2_with fail
  refine (put none 0 0 [] S A (In.nil A) q1 (by omega)).mono ?_
  rintro x W1 ⟨rfl, ho, hb1⟩
  rw [List.nil_append] at ho
  obtain ⟨n1, hn1⟩ : ∃ n, (enc S.toNat).length = n := ⟨_, rfl⟩
  obtain ⟨l1, hl1⟩ : ∃ l, enc S.toNat = l := ⟨_, rfl⟩
  have hz1' : n1 ≤ 10 := by rw [← hn1]; exact enc_le _ (by omega)
  have H1 : Hid (Below A.heap.size A W1 ∧ In W1 (some ⟨A.heap.size, 0, none⟩) n1 n1 l1 ∧ n1 ≤ 10 ∧ l1 = enc S.toNat ∧ l1.length = n1) := by
    refine ⟨hb1, ?_, hz1', hl1.symm, by rw [← hl1, hn1]⟩
    rw [Nat.zero_add, hn1, hl1] at ho
    have e : l1.length = n1 := by rw [← hl1, hn1]
    rw [← e] at ho ⊢
    exact ho.toIn (by omega)
  have c2 : W1.cell? ⟨b, 1, none⟩ = some (iv e.tick) := (hb1.cell (p := ⟨b, 1, none⟩) HA.out.2.1.lt).trans c1
  rw [Nat.zero_add, hn1]
  clear ho hb1 hn1 hl1 hz1' c0 c1 hA1 hA hr hb
  go_wp2_with fail
  refine (put _ n1 n1 l1 T W1 H1.out.2.1 q3 (by omega)).mono ?_
  rintro x W2 ⟨rfl, ho, hb2⟩
  obtain ⟨n2, hn2⟩ : ∃ n, n1 + (enc T.toNat).length = n := ⟨_, rfl⟩
  obtain ⟨l2, hl2⟩ : ∃ l, l1 ++ enc T.toNat = l := ⟨_, rfl⟩
  have hz2' : n2 ≤ 20 := by have := enc_le T.toNat (by omega); have := H1.out.2.2.1; omega
  have H2 : Hid (Below A.heap.size A W2 ∧ In W2 (some ⟨W1.heap.size, 0, none⟩) n2 n2 l2 ∧ n2 ≤ 20 ∧ l2 = l1 ++ enc T.toNat) := by
    refine ⟨below_tr H1.out.1 hb2, ?_, hz2', hl2.symm⟩
    have e : l2.length = n2 := by rw [← hl2, List.length_append, H1.out.2.2.2.2, hn2]
    rw [hn2, hl2, ← e] at ho
    rw [← e]
    exact ho.toIn (by omega)
  have c3 : W2.cell? ⟨b, 2, none⟩ = some (.string e.who) := (H2.out.1.cell (p := ⟨b, 2, none⟩) HA.out.2.1.lt).trans (HA.out.2.1.cell (by rw [← HE.out.2.1]; rfl))
  rw [hn2]
  clear ho hb2 hn2 hl2 hz2' c2
  go_wp2_with fail
  refine (putText _ n2 n2 l2 e.who W2 H2.out.2.1 (by have := H2.out.2.2.1; have := HE.out.2.2.2.2.1; omega)).mono ?_
  rintro x W3 ⟨g3, cp3, rfl, hg3, hl3, hc3, ho, hb3⟩
  obtain ⟨l3, hl3'⟩ : ∃ l, l2 ++ enc e.who.size ++ e.who.data.toList = l := ⟨_, rfl⟩
  rw [hl3'] at ho ⊢
  have hz3 : l3.length ≤ 30 + e.who.size := by
    rw [← hl3', List.length_append, List.length_append, H2.out.2.1.1]
    have := enc_le e.who.size (by have := HE.out.2.2.2.2.1; omega)
    have := H2.out.2.2.1
    have h3 : e.who.data.toList.length = e.who.size := rfl
    omega
  obtain ⟨n3, hn3⟩ : ∃ n, l3.length = n := ⟨_, rfl⟩
  have H3 : Hid (Below A.heap.size A W3 ∧ In W3 (some ⟨g3, 0, none⟩) n3 cp3 l3 ∧ n3 ≤ 30 + e.who.size ∧ l3 = l2 ++ enc e.who.size ++ e.who.data.toList) := by
    refine ⟨below_tr H2.out.1 hb3, ?_, by omega, hl3'.symm⟩
    rw [← hn3]
    exact ho.toIn (by have := HE.out.2.2.2.2.1; omega)
  have c4 : W3.cell? ⟨b, 3, none⟩ = some (.string e.what) := (H3.out.1.cell (p := ⟨b, 3, none⟩) HA.out.2.1.lt).trans (HA.out.2.1.cell (by rw [← HE.out.2.1]; rfl))
  rw [hn3]
  clear ho hb3 hn3 hl3' hz3 c3 hg3 hl3 hc3
  go_wp2_with fail
  refine (putText _ n3 cp3 l3 e.what W3 H3.out.2.1 (by have := H3.out.2.2.1; have := HE.out.2.2.2.2.1; omega)).mono ?_
  rintro x W4 ⟨g4, cp4, rfl, hg4, hl4, hc4, ho, hb4⟩
  obtain ⟨l4, hl4'⟩ : ∃ l, l3 ++ enc e.what.size ++ e.what.data.toList = l := ⟨_, rfl⟩
  rw [hl4'] at ho ⊢
  have hz4 : l4.length ≤ 40 + e.who.size + e.what.size := by
    rw [← hl4', List.length_append, List.length_append, H3.out.2.1.1]
    have := enc_le e.what.size (by have := HE.out.2.2.2.2.1; omega)
    have := H3.out.2.2.1
    have h3 : e.what.data.toList.length = e.what.size := rfl
    omega
  obtain ⟨n4, hn4⟩ : ∃ n, l4.length = n := ⟨_, rfl⟩
  have H4 : Hid (Below A.heap.size A W4 ∧ W4.ownsRow W3.heap.size 5 1 (.slice (some ⟨g4, 0, none⟩) n4 cp4) n4 (U l4) ∧ n4 ≤ 40 + e.who.size + e.what.size ∧ l4 = l3 ++ enc e.what.size ++ e.what.data.toList ∧ l4.length = n4 ∧ W3.heap.size ≤ W4.heap.size ∧ A.heap.size ≤ W3.heap.size) := by
    refine ⟨below_tr H3.out.1 hb4, ?_, by omega, hl4'.symm, hn4, hb4.size, H3.out.1.size⟩
    rw [← hn4]
    exact ho
  have H4b : Hid (Blk W4 b 37 C ∧ Blk W4 r 35 Z ∧ KT W4 ∧ ST W4) := ⟨HA.out.2.1.below H4.out.1 HA.out.2.1.lt, HA.out.2.2.1.below H4.out.1 HA.out.2.2.1.lt, HA.out.2.2.2.1.below H4.out.1, HA.out.2.2.2.2.1.below H4.out.1⟩
  have hsl := slice35 b
  rw [hn4]
  clear ho hb4 hn4 hl4' hz4 c4 hg4 hl4 hc4
  go_wp2_with (with_reducible change wpList _ _ _ ({ dst := some 26, op := _, type := _, pos := _, after := _, guard := _ } :: _) _ _; refine Hid.out ?_)
  show wpList _ _ _ _ _ _
  refine wpList_append_in _ rfl (.tmp 23) (.tmp 25) 60 rfl W3.heap.size 5 i0 Tryd.underlying60 hi hz0 hz1 hz2 _ l4 n4 H4.out.2.2.2.2.1 rfl H4.out.2.1 (some ⟨b, 4, none⟩) 32 32 e.prev rfl ?_ (by have := H4.out.2.2.1; have := HE.out.2.2.2.2.1; omega) H4.out.2.2.2.2.2.1 ?_
  · have := in_mid (o := 4) (l := e.prev) H4b.out.1 (by rw [← HE.out.2.1]; show (U e.prev).take _ = _; rw [List.take_of_length_le (by rw [U_length]; exact Nat.le_refl _)]) (by rw [HE.out.1.1]; omega)
    rw [HE.out.1.1] at this
    exact this
  intro v5 W5 ho5 hg5
  have b45 : Below W3.heap.size W4 W5 := ((Below.refl _ W4).mono H4.out.2.2.2.2.2.1).grown hg5 H4.out.2.2.2.2.2.1 (fun j hj => by cases hj; rcases H4.out.2.1.2 with ⟨h, _⟩ | ⟨g, cp, cur, h, hB, _⟩ <;> cases h; exact hB)
  have b5 : Below A.heap.size A W5 := H4.out.1.trans (b45.mono H4.out.2.2.2.2.2.2)
  have H5 : Hid (Below w.heap.size w W5 ∧ Blk W5 r 35 Z ∧ KT W5 ∧ ST W5 ∧ w.heap.size ≤ r) := ⟨below_tr HA.out.1 b5, HA.out.2.2.1.below b5 HA.out.2.2.1.lt, HA.out.2.2.2.1.below b5, HA.out.2.2.2.2.1.below b5, HA.out.2.2.2.2.2⟩
  have eL : l4 ++ e.prev = dgB e := by
    unfold dgB
    rw [HE.out.2.2.1, HE.out.2.2.2.1, H4.out.2.2.2.1, H3.out.2.2.2, H2.out.2.2.2, H1.out.2.2.2.1]
    simp only [List.append_assoc]
  have hp5 : 0 < (l4 ++ e.prev).length := by rw [List.length_append, HE.out.1.1]; omega
  obtain ⟨g5, cp5, rfl, _⟩ := ho5.shape hp5
  have hin5 := ho5.toIn (by rw [List.length_append, HE.out.1.1, H4.out.2.2.2.2.1]; have := H4.out.2.2.1; have := HE.out.2.2.2.2.1; omega)
  obtain ⟨n5, hn5⟩ : ∃ n, (l4 ++ e.prev).length = n := ⟨_, rfl⟩
  rw [hn5] at hin5 ⊢
  have H6 : Hid (In W5 (some ⟨g5, 0, none⟩) n5 cp5 (l4 ++ e.prev) ∧ n5 < 900000000000 ∧ sum (l4 ++ e.prev) = D) := by
    refine ⟨hin5, ?_, by rw [eL]; exact HE.out.2.2.2.2.2.1⟩
    rw [← hn5, List.length_append, HE.out.1.1, H4.out.2.2.2.2.1]
    have := H4.out.2.2.1; have := HE.out.2.2.2.2.1
    omega
  clear ho5 hg5 b45 b5 eL hp5 hin5 hn5 H4b H4 H3 H2 H1
  go_wp2_with fail
  refine (sum_is' _ D H6.out.2.2 _ n5 cp5 W5 H5.out.2.2.1 H5.out.2.2.2.1 H6.out.1 H6.out.2.1).mono ?_
  rintro x W6 ⟨rfl, hb6⟩
  have H7 : Hid (Below w.heap.size w W6 ∧ Blk W6 r 35 Z) := ⟨below_tr H5.out.1 hb6.out, H5.out.2.1.below hb6.out H5.out.2.1.lt⟩
  clear hb6 H6
  go_wp2_with (with_reducible change wpList _ _ _ ({ dst := none, op := Op.store 35 _ _, type := _, pos := _, after := _, guard := _ } :: _) _ _; refine Hid.out ?_)
  show wpList _ _ _ _ _ _
  refine wpList_store_blk rfl 35 (.tmp 2) (.tmp 27) rfl r 0 35 Z (U D) rfl rfl H7.out.2 (by rw [HZ.out, U_length, HE.out.2.2.2.2.2.2, zb_length]; exact Nat.le_refl _) (by rw [U_length, HE.out.2.2.2.2.2.2]; exact size35) (U_one _) ?_
  intro W7 hx7 hg7
  have H8 : Hid (Below w.heap.size w W7 ∧ Blk W7 r 35 (U D)) := ⟨below_gr H7.out.1 hg7.out H5.out.2.2.2.2, blk_all hx7.out (by rw [HZ.out, U_length, HE.out.2.2.2.2.2.2, zb_length])⟩
  clear hx7 hg7
  go_wp2
  refine ret_c rfl rfl rfl H8.out.2 Tryd.underlying35 rfl (by rw [U_length, HE.out.2.2.2.2.2.2]; exact size35) ⟨rfl, H8.out.1⟩
#print axioms digest_is
end Go.Proofs.YtmmpafaegmejlaaDoor.Oct
