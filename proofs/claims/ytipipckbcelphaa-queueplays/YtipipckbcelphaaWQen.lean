/-
  Layer 21 (queue): end, Drop.
-/
import Derived.Test.YtipipckbcelphaaWQrg
import Derived.Laws.Rows
import Derived.Laws.ResultCell
namespace Go.Proofs.Ytipipckbcelphaa.Oct
open Go.RowKit
set_option linter.unusedSimpArgs false
set_option linter.unusedVariables false

theorem qdC_app (l : List (Int × Int × Int)) (x : Int × Int × Int) : qdC (l ++ [x]) = qdC l ++ qd x := by simp [qdC]
theorem QAt.emade {A V : World} {b K : Nat} {M : Qu} {T v : Value} {x : Int × Int × Int} (h : QAt A b M T K) (hm : Made3 A b M.wv M.ev T M.E.length (qdC M.E) x v V) {K' : Nat} (hK : M.W.length + M.E.length + 1 ≤ K') (hf : K' ≤ 3000000000000) :
    QAt V b ⟨M.wv, v, M.W, M.E ++ [x]⟩ T K' ∧ QAfter A b M ⟨M.wv, v, M.W, M.E ++ [x]⟩ V := by
  obtain ⟨p1, p2, p3⟩ := h.parts
  obtain ⟨ho, hb, ⟨g', hg', hor⟩, hk⟩ := hm
  refine ⟨⟨hb, ?_, ?_, ?_, h.nW, by simp; omega, hf⟩, ?_, ?_⟩
  · exact h.wrow.same fun g hg => hk.block g (h.wrow.lt hg) (fun e => e.elim (fun e => p1 (by rw [hg, e])) (fun e => p3 g hg e))
  · show Ow V 38 3 v (M.E ++ [x]).length (qdC (M.E ++ [x]))
    rw [qdC_app, List.length_append]
    exact ho
  · refine nod3 p1 (fun e => ?_) (fun g h1 h2 => ?_)
    · rw [hg'] at e
      cases e
      rcases hor with e | e
      · exact p2 e
      · have := h.blk.lt; omega
    · rw [hg'] at h2
      cases h2
      rcases hor with e | e
      · exact p3 _ h1 e
      · have := h.wrow.lt h1; omega
  · intro k hk
    simp only [Qu.bl, List.mem_cons, List.mem_append, Option.mem_toList] at hk ⊢
    rcases hk with rfl | hk | hk
    · exact .inl (.inl rfl)
    · exact .inl (.inr (.inl hk))
    · rw [hg'] at hk
      cases hk
      rcases hor with e | e
      · exact .inl (.inr (.inr e))
      · exact .inr e
  · exact hk.mono fun j _ hj => by
      rcases hj with rfl | hj
      · simp [Qu.bl]
      · simp [Qu.bl, hj]
def EndP (w : World) (b K : Nat) (M : Qu) (T : Value) (k : Nat) (x : Int × Int × Int) (w' : World) : Prop :=
  ∃ v u, QAt w' b ⟨v, u, M.W.eraseIdx k, M.E ++ [x]⟩ T K ∧ QAfter w b M ⟨v, u, M.W.eraseIdx k, M.E ++ [x]⟩ w'
set_option maxRecDepth 100000 in
set_option maxHeartbeats 2000000 in
theorem end_is {w : World} {b K : Nat} {M : Qu} {T : Value} (h : QAt w b M T K) {k : Nat} {x : Int} (hx : M.W[k]? = some x) (how why : Int) :
    Calls Try.prog 38 #[.pointer (some ⟨b, 0, none⟩), iv (k : Int), iv how, iv why] w fun e w' => e = .returned (.agg (qd (x, how, why)).toArray) ∧ EndP w b K M T k (x, how, why) w' := by
  have hkl : k < M.W.length := (List.getElem?_eq_some_iff.1 hx).1
  have hz38 : ∀ W : World, (zeroValue 38).run Try.prog W = .ok (.agg #[iv 0, iv 0, iv 0]) W := fun W => by kernel_rfl
  obtain ⟨X, hX⟩ : ∃ X, qd (x, how, why) = X := ⟨_, rfl⟩
  have HX : Hid (qd (x, how, why) = X ∧ X.length = 3 ∧ (∀ u ∈ X, u.oneCell' = true)) := by rw [← hX]; exact ⟨rfl, rfl, qd_one _⟩
  obtain ⟨a, cap, hv, hnc, _, hlen, hr⟩ := h.wrow.read
  obtain ⟨g, rfl, _, hgl, hra⟩ := hr (by omega)
  obtain ⟨n, hn⟩ : ∃ n, M.W.length = n := ⟨_, rfl⟩
  rw [hn] at hv hkl
  have q1 : (k : Int) < (n : Int) := by omega
  have q2 : (n : Int) ≤ 64 := by have := h.nW; omega
  have q3 : k < n := hkl
  have c1 : w.cell? ⟨b, 1, none⟩ = some (.slice (some ⟨g, 0, none⟩) n cap) := by rw [← hv]; exact h.blk.cell rfl
  have cx : w.cell? ⟨g, k, none⟩ = some (iv x) := by
    have := hra k _ (ivs_at hx)
    rwa [Nat.zero_add] at this
  have qb : b < w.heap.size := h.blk.lt
  have HH : Hid (QAt w b M T K ∧ M.W[k]? = some x ∧ M.W.length = n ∧ M.wv = .slice (some ⟨g, 0, none⟩) n cap) := ⟨h, hx, hn, hv⟩
  clear h hx hra hr hlen hn hv hnc hkl hX
  go_enter Try.func38, Try.ntmps38
  go_wp2_with (with_reducible change wpList _ _ _ ({ dst := none, op := Op.store 38 _ _, type := _, pos := _, after := _, guard := _ } :: _) _ _; refine Hid.out ?_)
  show wpList _ _ _ _ _ _
  refine wpList_store_blk rfl 38 (.tmp 9) (.tmp 19) rfl (w.heap.size + 1) 0 38 [iv 0, iv 0, iv 0] X rfl (by rw [← HX.out.1]; rfl) (by have := Blk.new (w.alloc (.cells #[iv 0, iv 0, iv 0] 38)) #[iv 0, iv 0, iv 0] 38; rw [World.size_alloc] at this; simpa using this) (by rw [HX.out.2.1]; simp) (by rw [HX.out.2.1]; exact size38) HX.out.2.2 ?_
  intro V1 hb5 hg5
  have hA : Below w.heap.size w ((w.alloc (.cells #[iv 0, iv 0, iv 0] 38)).alloc (.cells #[iv 0, iv 0, iv 0] 38)) := ((Below.refl _ w).alloc (Nat.le_refl _) _).alloc (by simp) _
  have hV1 : Below w.heap.size w V1 := hA.grown hg5.out hA.size (fun j hj => by cases hj; omega)
  have h9 : Blk V1 (w.heap.size + 1) 38 X := by
    have := hb5.out
    rw [List.take_zero, List.nil_append, List.drop_of_length_le (by rw [HX.out.2.1]; simp), List.append_nil] at this
    exact this
  have h8 : Blk V1 w.heap.size 38 [iv 0, iv 0, iv 0] := ((Blk.new w #[iv 0, iv 0, iv 0] 38).alloc _).kept hg5.out (fun e => by injection e with e; omega)
  obtain ⟨k8, hk8⟩ : ∃ k8, w.heap.size = k8 := ⟨_, rfl⟩
  rw [hk8] at h8 h9 ⊢
  have HV1 : Hid (QAt V1 b M T K ∧ Below w.heap.size w V1 ∧ Blk V1 k8 38 [iv 0, iv 0, iv 0] ∧ Blk V1 (k8 + 1) 38 X ∧ w.heap.size = k8) := ⟨HH.out.1.below hV1, hV1, h8, h9, hk8⟩
  have HD := delete_is (k := k) HV1.out.1.wrow (by rw [HH.out.2.2.1]; exact q3)
  rw [show ((k + 1 : Nat) : Int) = (k : Int) + 1 by omega, HH.out.2.2.2, HH.out.2.2.1] at HD
  have e1 : V1.cell? ⟨b, 1, none⟩ = some (.slice (some ⟨g, 0, none⟩) n cap) := by rw [← HH.out.2.2.2]; exact HV1.out.1.blk.cell rfl
  clear hb5 hg5 hA hV1 h9 h8 hk8 c1 cx
  go_wp2_with fail
  refine HD.mono ?_
  rintro e W2 ⟨v', rfl, hob, ho, hg2⟩
  have hel : (M.W.eraseIdx k).length = n - 1 := by rw [List.length_eraseIdx, if_pos (by rw [HH.out.2.2.1]; exact q3), HH.out.2.2.1]
  obtain ⟨a2, cap2, hv2, _⟩ := ho.read
  obtain ⟨n1, hn1⟩ : ∃ n1, n - 1 = n1 := ⟨_, rfl⟩
  rw [hn1] at hv2 ho hel
  subst hv2
  have hg2' : V1.grownBy W2 M.wv.ownBlock := by rw [HH.out.2.2.2]; exact hg2
  have hw := HV1.out.1.wput (K' := K) (v := .slice a2 n1 cap2) (W' := M.W.eraseIdx k) (Below.refl _ V1) (by rw [hel]; exact ho) hg2' (fun g hg => .inl (by rw [HH.out.2.2.2, ← hob]; exact hg)) (by have := HH.out.1.nW; have := HH.out.2.2.1; omega) (by have := HH.out.1.nE; have := HH.out.2.2.1; omega) HH.out.1.few
  have hgv := grown_setCell W2 b 1 (.slice a2 n1 cap2)
  have hwb : ∀ j, w.heap.size ≤ j → some j ≠ M.wv.ownBlock := fun j hj e => by have := HH.out.1.wrow.lt e.symm; omega
  have h8 : Blk (W2.setCell ⟨b, 1, none⟩ (.slice a2 n1 cap2)) k8 38 [iv 0, iv 0, iv 0] := (HV1.out.2.2.1.kept hg2' (hwb _ (by have := HV1.out.2.2.2.2; omega))).kept hgv (fun e => by injection e with e; have := HV1.out.2.2.2.2; omega)
  have h9 : Blk (W2.setCell ⟨b, 1, none⟩ (.slice a2 n1 cap2)) (k8 + 1) 38 X := (HV1.out.2.2.2.1.kept hg2' (hwb _ (by have := HV1.out.2.2.2.2; omega))).kept hgv (fun e => by injection e with e; have := HV1.out.2.2.2.2; omega)
  have hbk : Blk W2 b 54 [.bool true, M.wv, M.ev, T] := HV1.out.1.blk.kept hg2' (fun e => HV1.out.1.parts.1 e.symm)
  have d1 : W2.cell? ⟨b, 1, none⟩ = some M.wv := hbk.cell rfl
  have d2 : W2.frozen? ⟨b, 1, none⟩ = false := hbk.free 1
  have HW : Hid ((QAt (W2.setCell ⟨b, 1, none⟩ (.slice a2 n1 cap2)) b ⟨.slice a2 n1 cap2, M.ev, M.W.eraseIdx k, M.E⟩ T K ∧ QAfter V1 b M ⟨.slice a2 n1 cap2, M.ev, M.W.eraseIdx k, M.E⟩ (W2.setCell ⟨b, 1, none⟩ (.slice a2 n1 cap2))) ∧ Blk (W2.setCell ⟨b, 1, none⟩ (.slice a2 n1 cap2)) k8 38 [iv 0, iv 0, iv 0] ∧ Blk (W2.setCell ⟨b, 1, none⟩ (.slice a2 n1 cap2)) (k8 + 1) 38 X ∧ (M.W.eraseIdx k).length + 1 ≤ M.W.length) := ⟨hw, h8, h9, by rw [hel, HH.out.2.2.1]; omega⟩
  clear HD hob ho hg2 hel hn1 hg2' hw hgv hwb h8 h9 hbk e1
  go_wp2_with fail
  obtain ⟨V3, hV3⟩ : ∃ V3, W2.setCell ⟨b, 1, none⟩ (.slice a2 n1 cap2) = V3 := ⟨_, rfl⟩
  rw [hV3] at HW ⊢
  have HLB : Hid (b < V3.heap.size) := HW.out.1.1.blk.lt
  have HNB : Hid (M.ev.ownBlock ≠ some b) := HW.out.1.1.parts.2.1
  have HN : Hid (M.E.length + 1 ≤ 4000000000000) := by show _ ≤ _; have h1 := HH.out.1.nE; have h2 := HH.out.1.few; omega
  have HXX : Hid (Blk V3 b 54 [.bool true, .slice a2 n1 cap2, M.ev, T] ∧ Ow V3 38 3 M.ev M.E.length (qdC M.E)) := ⟨HW.out.1.1.blk, HW.out.1.1.erow⟩
  have HL : Hid (k8 + 1 < V3.heap.size ∧ ¬ SB b M.ev (k8 + 1)) := ⟨HW.out.2.2.1.lt, fun e => e.elim (fun e => by have := HV1.out.2.2.2.2; omega) (fun e => by have h1 := HH.out.1.erow.lt e; have := HV1.out.2.2.2.2; omega)⟩
  have HR : Hid (V3.rangeAt (k8 + 1) 0 (qd (x, how, why))) := by
    show V3.rangeAt _ _ _
    rw [HX.out.1]
    have := HW.out.2.2.1.range 0 3
    rwa [List.drop_zero, List.take_of_length_le (by rw [HX.out.2.1]; omega)] at this
  clear d1 d2 hV3
  refine end3 HL HR HXX HN HNB HLB ?_
  intro V5 v5 q hm
  have HE : Hid (_ ∧ _) := HW.out.1.1.emade (K' := K) hm (by have h1 := HH.out.1.nE; have h2 := HW.out.2.2.2; show (M.W.eraseIdx k).length + M.E.length + 1 ≤ K; omega) HH.out.1.few
  have HB : Hid (Blk V5 k8 38 [iv 0, iv 0, iv 0] ∧ Blk V5 (k8 + 1) 38 X) := by
    refine ⟨hm.2.2.2.blk HW.out.2.1 (fun e => e.elim (fun e => ?_) (fun e => ?_)), hm.2.2.2.blk HW.out.2.2.1 HL.out.2⟩
    · have := HV1.out.2.2.2.2; omega
    · have h1 := HH.out.1.erow.lt e; have := HV1.out.2.2.2.2; omega
  clear hm HL HR HXX HN HNB HLB
  go_wp2_with (with_reducible change wpList _ _ _ ({ dst := some 41, op := _, type := _, pos := _, after := _, guard := _ } :: _) _ _; refine Hid.out ?_)
  show wpList _ _ _ _ _ _
  refine wpList_load_row rfl 38 (.tmp 9) rfl (k8 + 1) rfl 38 X.toArray (0, 0) _ HB.out.2 Try.underlying38 rfl (by rw [List.size_toArray, HX.out.2.1]; exact size38) ?_
  simp only [Act.put, List.setIfInBounds_toArray, List.set_cons_zero, List.set_cons_succ]
  go_wp2_with (with_reducible change wpList _ _ _ ({ dst := none, op := Op.store 38 _ _, type := _, pos := _, after := _, guard := _ } :: _) _ _; refine Hid.out ?_)
  show wpList _ _ _ _ _ _
  refine wpList_store_blk rfl 38 (.tmp 8) (.tmp 41) rfl k8 0 38 [iv 0, iv 0, iv 0] X rfl rfl HB.out.1 (by rw [HX.out.2.1]; simp) (by rw [HX.out.2.1]; exact size38) HX.out.2.2 ?_
  intro V6 hb6 hg6
  have HB6 : Hid (Blk V6 k8 38 X) := by
    have := hb6.out
    rw [List.take_zero, List.nil_append, List.drop_of_length_le (by rw [HX.out.2.1]; simp), List.append_nil] at this
    exact this
  have HF : Hid (EndP w b K M T k (x, how, why) V6) := by
    have hne : ∀ j ∈ Qu.bl ⟨.slice a2 n1 cap2, v5, M.W.eraseIdx k, M.E ++ [(x, how, why)]⟩ b, j ≠ k8 := by
      intro j hj e
      have h1 := HE.out.2.1 j hj
      have h8 := HV1.out.2.2.2.2
      rcases h1 with h1 | h1
      · have h2 := HW.out.1.2.1 j h1
        rcases h2 with h2 | h2
        · have := HH.out.1.lt j h2; omega
        · have := HV1.out.2.2.1.lt; omega
      · have := HW.out.2.1.lt; omega
    have hk6 : Keep (fun j => j = k8) V5 V6 := Keep.grown hg6.out rfl
    refine ⟨_, v5, HE.out.1.keep hk6 (fun j hj e => hne j hj e), ?_⟩
    have h1 := (HW.out.1.2.trans HE.out.2).first HV1.out.2.1
    refine ⟨h1.1, h1.2.trans hk6 (fun j hj hl => ?_)⟩
    have := HV1.out.2.2.2.2
    omega
  clear hb6 hg6 HB HE
  go_wp2_with fail
  refine bodyPost_ret (results_cell_row rfl _ V6 k8 38 X.toArray (0, 0) _ rfl HB6.out Try.underlying38 rfl (by rw [List.size_toArray, HX.out.2.1]; exact size38)) rfl ?_
  exact ⟨by rw [HX.out.1], HF.out⟩
#print axioms end_is
end Go.Proofs.Ytipipckbcelphaa.Oct
