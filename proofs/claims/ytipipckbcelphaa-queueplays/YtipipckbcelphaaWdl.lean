/-
  Layer 21 (queue): Drain whole: its range.
-/
import Derived.Test.YtipipckbcelphaaWdr
namespace Go.Proofs.Ytipipckbcelphaa.Oct
open Go.RowKit Go.Shelf
attribute [local go_sem] Oper.semAt_some
set_option linter.unusedSimpArgs false
set_option linter.unusedVariables false

set_option maxRecDepth 100000 in
set_option maxHeartbeats 4000000 in
theorem drain_all {w : World} {b b11 b12 g6 K : Nat} {y : Av} {M : Qu} (hq : QAt w b M .nilFunc K) (h11 : Blk w b11 3 [iv 0]) (h12 : Blk w b12 43 [.func (.func 18) #[] #[.pointer (some ⟨b11, 0, none⟩), .pointer (some ⟨g6, 0, none⟩)]]) (h6 : Blk w g6 32 y.cells) (ha : ArgN w y.sa y.sn y.sc y.l)
    (hs1 : ∀ k ∈ M.bl b, k ≠ b11 ∧ k ≠ b12 ∧ k ≠ g6 ∧ AwayA y k) (hs3 : b11 ≠ b12 ∧ b11 ≠ g6 ∧ AwayA y b11) (hm : M.W.length ≤ 64) :
    Calls Try.prog 19 #[.pointer (some ⟨b, 0, none⟩), fnV 20 #[.pointer (some ⟨b12, 0, none⟩)]] w fun e V => ∃ tv M', e = .returned tv ∧ QAt V b M' .nilFunc K ∧ M'.W = [] ∧ M'.E = M.E ++ dr (ansR y.l) 0 M.W ∧ Ow V 38 3 tv M.W.length (qdC (dr (ansR y.l) 0 M.W)) ∧ Keep (fun k => k ∈ M.bl b ∨ k = b11) w V ∧ (∀ k ∈ M'.bl b, k ∈ M.bl b ∨ w.heap.size ≤ k) ∧ Blk V b11 3 [iv (M.W.length : Int)] := by
  obtain ⟨n, hn⟩ : ∃ n, M.W.length = n := ⟨_, rfl⟩
  refine (callsIn_wide (n := 9)).1 ?_
  refine callsIn_of_wp_marks Try.func19 rfl trivial ?_ rfl
  simp only [Try.ntmps19, List.size_toArray, List.length_cons, List.length_nil, Nat.reduceAdd, Nat.reduceSub, Array.replicate_succ, Array.replicate_zero, List.push_toArray, List.append_toArray, List.nil_append, List.cons_append]
  have HW : Calls Try.prog 23 #[.pointer (some ⟨b, 0, none⟩)] (w.alloc (.cells #[.slice none 0 0] 28)) fun e V => ∃ a c, e = .returned (.slice a n c) ∧ Below (w.alloc (.cells #[.slice none 0 0] 28)).heap.size (w.alloc (.cells #[.slice none 0 0] 28)) V := (waiting_is (hq.below (below_al _ _))).mono (by
    rintro e V ⟨v, rfl, h1, h2⟩
    rw [hn] at h1
    obtain ⟨a, c, hv, _⟩ := nums_own h1
    exact ⟨a, c, by rw [hv], h2⟩)
  have q0 : (n : Int) ≤ 64 := by omega
  have HA : Hid (QAt w b M .nilFunc K ∧ Blk w b11 3 [iv 0] ∧ Blk w b12 43 [.func (.func 18) #[] #[.pointer (some ⟨b11, 0, none⟩), .pointer (some ⟨g6, 0, none⟩)]] ∧ Blk w g6 32 y.cells ∧ ArgN w y.sa y.sn y.sc y.l) := ⟨hq, h11, h12, h6, ha⟩
  clear hq h11 h12 h6 ha
  gi_wp2_with (first
    | (first | refine ⟨trivial, (fun h => by cases h), ?_⟩ | refine ⟨trivial, ?_⟩; gi_at_call 23; refine (callsIn_wide.2 HW).mono ?_; rintro e W1 ⟨a, c, rfl, hb1⟩; have HB1 : Hid (Below w.heap.size w W1 ∧ Blk W1 w.heap.size 28 [.slice none 0 0]) := ⟨below_tr (below_al _ _) hb1, (Blk.new w _ _).below hb1 (by simp)⟩; clear hb1)
    | (first | refine ⟨trivial, (fun h => by cases h), ?_⟩ | refine ⟨trivial, ?_⟩; gi_at_call 41; refine (callsIn_wide.2 (steps_isf (some ⟨b, 0, none⟩) n W1)).mono ?_; rintro e W2 ⟨rfl, hW2⟩))
  obtain ⟨W3, hW3⟩ : ∃ V, ((W1.alloc (.cells #[.pointer (some ⟨b, 0, none⟩)] 25)).alloc (.cells #[fnV 20 #[.pointer (some ⟨b12, 0, none⟩)]] 34)).alloc (.cells #[iv (n : Int)] 3) = V := ⟨_, rfl⟩
  have hB3 : Below W1.heap.size W1 W3 := by rw [← hW3]; exact (((Below.refl _ W1).alloc (Nat.le_refl _) _).alloc (by simp) _).alloc (by simp; omega) _
  have h3 : Blk W3 W1.heap.size 25 [.pointer (some ⟨b, 0, none⟩)] := by rw [← hW3]; exact ((Blk.new W1 _ _).alloc _).alloc _
  have h4 : Blk W3 (W1.heap.size + 1) 34 [fnV 20 #[.pointer (some ⟨b12, 0, none⟩)]] := by
    rw [← hW3]
    have := (Blk.new (W1.alloc (.cells #[.pointer (some ⟨b, 0, none⟩)] 25)) #[fnV 20 #[.pointer (some ⟨b12, 0, none⟩)]] 34).alloc (.cells #[iv (n : Int)] 3)
    rwa [World.size_alloc] at this
  have h5 : Blk W3 (W1.heap.size + 2) 3 [iv (n : Int)] := by
    rw [← hW3]
    have := Blk.new ((W1.alloc (.cells #[.pointer (some ⟨b, 0, none⟩)] 25)).alloc (.cells #[fnV 20 #[.pointer (some ⟨b12, 0, none⟩)]] 34)) #[iv (n : Int)] 3
    rwa [World.size_alloc, World.size_alloc] at this
  have hx : Blk W3 w.heap.size 28 [.slice none 0 0] := HB1.out.2.below hB3 HB1.out.2.lt
  have hw3 : Below w.heap.size w W3 := below_tr HB1.out.1 hB3
  have hl1 : w.heap.size < W1.heap.size := HB1.out.2.lt
  have hl3 : W1.heap.size + 2 < W3.heap.size := h5.lt
  have HI3 : Hid (∀ W, Below W3.heap.size W3 W → ∃ M' tv, DJ w W b b11 b12 g6 w.heap.size (W1.heap.size + 2) W1.heap.size (W1.heap.size + 1) W3.heap.size y M K n 0 0 M' tv) := by
    intro W hb
    obtain ⟨a1, a2, a3, a4, a5⟩ := HA.out
    have hwW := below_tr hw3 hb
    have away : ∀ k, w.heap.size ≤ k → AwayA y k := fun k hk hp o e => by
      obtain ⟨g, o', f1, f2, _⟩ := a5.2.2.2.2 hp
      rw [f1] at e
      cases e
      omega
    have l11 := a2.lt
    have l12 := a3.lt
    have l6 := a4.lt
    refine ⟨M, .slice none 0 0, ⟨a1.below hwW, by simp, by simp, a2.below hwW l11, a3.below hwW l12, a4.below hwW l6, argN_same a5 (fun _ g _ _ hg => hwW.block g hg) hwW.size, hx.below hb hx.lt, ?_, h5.below hb h5.lt, h3.below hb h3.lt, h4.below hb h4.lt, Keep.below hwW, fun k hk => .inl hk, ?_, ?_, ?_, ?_, ?_, ?_⟩⟩
    · have := Ow.nil W 38 3; simpa [qdC] using this
    · intro k hk
      have hl := a1.lt k hk
      obtain ⟨z1, z2, z3, z4⟩ := hs1 k hk
      exact ⟨z1, z2, z3, by omega, by omega, by omega, by omega, by omega, by omega, (fun e => by cases e), z4⟩
    · intro k hk; cases hk
    · exact ⟨hs3.1, hs3.2.1, by omega, by omega, by omega, by omega, by omega, by omega, hs3.2.2⟩
    · exact ⟨by omega, by omega, by omega, by omega, by omega, by omega, by omega, by omega, away _ (by omega)⟩
    · exact ⟨by omega, by omega, by omega, by omega, by omega, by omega, away _ (by omega)⟩
    · exact ⟨hn, by omega, by omega, by omega⟩
  have HL : Hid (w.heap.size < W1.heap.size ∧ W1.heap.size + 2 < W3.heap.size) := ⟨hl1, hl3⟩
  rw [hW3]
  clear hW3 HW hB3 h3 h4 h5 hx hw3 hl1 hl3
  refine rangeQ (X := Int × Int × Int) (gf := 47) (lb := #[.pointer (some ⟨W1.heap.size + 2, 0, none⟩), .pointer (some ⟨W1.heap.size, 0, none⟩), .pointer (some ⟨W1.heap.size + 1, 0, none⟩)]) rfl (enters_of Try.func47 (by kernel_rfl) rfl) (fun x => #[.agg #[iv x.1, iv x.2.1, iv x.2.2]]) (fun _ => rfl)
    (fun s W => ∃ M' tv, DJ w W b b11 b12 g6 w.heap.size (W1.heap.size + 2) W1.heap.size (W1.heap.size + 1) W3.heap.size y M K n s s M' tv)
    (fun s x W => (∃ M' tv, DJ w W b b11 b12 g6 w.heap.size (W1.heap.size + 2) W1.heap.size (W1.heap.size + 1) W3.heap.size y M K n (s + 1) s M' tv) ∧ (dr (ansR y.l) 0 M.W)[s]? = some x ∧ W3.heap.size + 1 < W.heap.size)
    (fun x a' W => ∃ bx, Blk W bx 38 [iv x.1, iv x.2.1, iv x.2.2] ∧ bx ≠ W3.heap.size + 1 ∧ ∃ u0 u1 u2 u3 u4 u7 u8 u9 u10 u11 u12 u13 u14 u15 u16 u17 u18, a' = { tmps := #[u0, u1, u2, u3, u4, .pointer (some ⟨w.heap.size, 0, none⟩), .pointer (some ⟨bx, 0, none⟩), u7, u8, u9, u10, u11, u12, u13, u14, u15, u16, u17, u18], defers := [] })
    (fun s => s = n) ?hI ?hP ?hAx ?h0 ?assign ?body ?iter ?done
  case hI => rintro s A o ⟨M', tv, h⟩; exact ⟨M', tv, h.putObj o⟩
  case hP => rintro s x A o ⟨⟨M', tv, h⟩, h1, h2⟩; exact ⟨⟨M', tv, h.putObj o⟩, h1, by simpa using h2⟩
  case hAx => rintro x a' A o ⟨bx, h1, h2, h3⟩; exact ⟨bx, (World.putObj_heap_other (by omega)).trans h1, h2, h3⟩
  case h0 => intro W _ hb; exact HI3.out W hb
  case iter => intro J W hsz hJ hJ2 hY h0; exact iter_all J W (by omega) hn hJ hJ2 hY h0
  case assign =>
    intro s x W K' hp hK
    have hz38 := zero38
    have HP : Hid ((∃ M' tv, DJ w W b b11 b12 g6 w.heap.size (W1.heap.size + 2) W1.heap.size (W1.heap.size + 1) W3.heap.size y M K n (s + 1) s M' tv) ∧ (dr (ansR y.l) 0 M.W)[s]? = some x ∧ W3.heap.size + 1 < W.heap.size) := hp
    simp only [List.zip_toArray, List.zip_cons_cons, List.zip_nil_left, List.zip_nil_right, List.foldl_toArray, List.foldl_toArray', List.size_toArray, List.length_cons, List.length_nil, List.foldl_cons, List.foldl_nil, List.setIfInBounds_toArray, List.set_cons_zero, List.set_cons_succ]
    clear hp
    gi_wp2
    have hb : Below W.heap.size W (W.alloc (.cells #[iv x.1, iv x.2.1, iv x.2.2] 38)) := below_al _ _
    obtain ⟨⟨M', tv, hD⟩, hxs, hsz⟩ := HP.out
    refine hK _ _ ⟨W.heap.size, Blk.new W _ _, by omega, _, _, _, _, _, _, _, _, _, _, _, _, _, _, _, _, _, rfl⟩ ⟨⟨M', tv, hD.below hb⟩, hxs, by simp; omega⟩ hb
  case body =>
    rintro s x a' W ⟨⟨M', tv, hD⟩, hxs, hsz⟩ ⟨bx, hbx, hne, u0, u1, u2, u3, u4, u7, u8, u9, u10, u11, u12, u13, u14, u15, u16, u17, u18, rfl⟩ _
    refine wpIn_block (wpIn_region_lit (listIn_of_list ?_ _ _ _ ?_ ?_))
    · rintro ⟨_, _, h⟩
      first | exact h.elim | cases h.1
    · intro o ho c; simp only [List.mem_cons, List.not_mem_nil, or_false] at ho; rcases ho with rfl | rfl | rfl | rfl | rfl <;> simp
    · have c5 : W.cell? ⟨w.heap.size, 0, none⟩ = some tv := hD.kt.cell rfl
      have x0 : W.cell? ⟨bx, 0, none⟩ = some (iv x.1) := hbx.cell rfl
      have x1 : W.cell? ⟨bx, 1, none⟩ = some (iv x.2.1) := hbx.cell rfl
      have x2 : W.cell? ⟨bx, 2, none⟩ = some (iv x.2.2) := hbx.cell rfl
      have HD : Hid (DJ w W b b11 b12 g6 w.heap.size (W1.heap.size + 2) W1.heap.size (W1.heap.size + 1) W3.heap.size y M K n (s + 1) s M' tv ∧ (dr (ansR y.l) 0 M.W)[s]? = some x ∧ W3.heap.size + 1 < W.heap.size) := ⟨hD, hxs, hsz⟩
      obtain ⟨i0, hi0, hsc, hby, z, hz, hzs⟩ := sized38
      have HI0 : Hid (Try.prog.info? 38 = some i0 ∧ i0.zero = some z ∧ i0.size = 3 ∧ i0.bytes ≤ 24 ∧ z.cells.size = 3) := ⟨hi0, hz, hsc, by omega, hzs⟩
      obtain ⟨ta, tc, htv, _⟩ := hD.tr.read
      have hu28 := Try.underlying28
      clear hD hxs hsz hbx hi0 hsc hby hz hzs
      subst htv
      go_wp2_with (with_reducible change wpList _ _ _ ({ dst := some 17, op := _, type := _, pos := _, after := _, guard := _ } :: _) _ _; refine Hid.out ?_)
      show wpList _ _ _ _ _ _
      refine wpList_append_ow rfl (.tmp 14) (.tmp 16) 28 rfl _ 38 i0 z 3 Try.underlying28 HI0.out.1 HI0.out.2.1 HI0.out.2.2.1 HI0.out.2.2.2.1 HI0.out.2.2.2.2 (by omega) (.slice ta s tc) s (qdC ((dr (ansR y.l) 0 M.W).take s)) (HD.out.1.tr.below (below_al W _)) W.heap.size 1 1 (qd x) rfl rfl rfl (range_new W (qd x) 38) (by intro u hu; simp [qd] at hu; rcases hu with rfl | rfl | rfl <;> rfl) (by omega) (by have := HD.out.1.n1; omega) ?_
      intro v5 w5 ho5 hg5 hg6
      simp only [Act.put, List.setIfInBounds_toArray, List.set_cons_zero, List.set_cons_succ]
      obtain ⟨a5, c5', hv5, _⟩ := ho5.out.read
      subst hv5
      have hF := HD.out.1.told (o := .cells (qd x).toArray 38) HD.out.2.2 HD.out.2.1 hg5.out ho5.out hg6.out
      have HF : Hid (_ ∧ _ ∧ _) := hF
      have hbt : Blk w5 w.heap.size 28 [.slice ta s tc] := (HD.out.1.kt.alloc _).kept hg5.out (fun e => (HD.out.1.s2 _ e.symm).2.2.2.1 rfl)
      have d5 : w5.cell? ⟨w.heap.size, 0, none⟩ = some (.slice ta s tc) := hbt.cell rfl
      have f5 : w5.frozen? ⟨w.heap.size, 0, none⟩ = false := hbt.free 0
      clear hF hbt c5 x0 x1 x2
      go_wp2
      exact ⟨trivial, ⟨M', _, HF.out.1⟩, HF.out.2.1, HF.out.2.2⟩
  case done =>
    rintro s W ⟨M', tv, hD⟩ rfl hK
    have hc : W.cell? ⟨w.heap.size, 0, none⟩ = some tv := hD.kt.cell rfl
    have HF : Hid (DJ w W b b11 b12 g6 w.heap.size (W1.heap.size + 2) W1.heap.size (W1.heap.size + 1) W3.heap.size y M K s s s M' tv) := hD
    have HK : Hid (W.heap[W3.heap.size]? = some (.deferred (some []))) := hK
    obtain ⟨ta, tc, htv, _⟩ := hD.tr.read
    clear hD hK
    subst htv
    gi_wp2
    refine ⟨by simp, .inl ⟨_, _, rfl, run_takeDeferred HK.out, ?_⟩⟩
    have hD := HF.out
    have hLL := HL.out
    have hlen : (dr (ansR y.l) 0 M.W).length = s := by rw [dr_len, hn]
    have hsm : ∀ k, k ≠ W3.heap.size → (W.putObj W3.heap.size (.deferred none)).heap[k]? = W.heap[k]? := fun k hk => World.putObj_heap_other (by omega)
    refine ⟨_, results_tmp (t := 4) rfl _ _ _, _, M', rfl, hD.q.same fun k hk => hsm k (hD.s1 k hk).2.2.2.2.2.2.2.1, ?_, ?_, ?_, ?_, hD.bl, by rw [hn]; exact (hsm _ hD.s3.2.2.2.2.2.2.1).trans hD.k11⟩
    · rw [hD.W', ← hn]; simp
    · rw [hD.E', List.take_of_length_le (by omega)]
    · have := hD.tr
      rw [List.take_of_length_le (by omega)] at this
      rw [hn]
      exact this.same fun g hg => hsm g (hD.s2 g hg).2.2.2.2.2.2.2.1
    · have := hD.kp
      exact ⟨this.os, this.tape, this.output, by simpa using this.size, fun k hk hk2 => (hsm k (by omega)).trans (this.block k hk hk2)⟩
#print axioms drain_all
end Go.Proofs.Ytipipckbcelphaa.Oct
