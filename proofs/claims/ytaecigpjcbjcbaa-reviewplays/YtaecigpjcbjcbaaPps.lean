/-
  Layer 20 (review): Propose.
-/
import Derived.Test.YtaecigpjcbjcbaaPp9
namespace Go.Proofs.Ytaecigpjcbjcbaa.Oct
open Go.RowKit
set_option linter.unusedSimpArgs false

/-- the board with one more -/
def Br.with (M : Br) (v7 v9 : Value) (p : Pr) : Br := ⟨v7, v9, M.props ++ [p], M.opn ++ [M.props.length + 1]⟩
theorem propC_snoc (l : List Pr) (p : Pr) : propC (l ++ [p]) = propC l ++ p.cells := by simp [propC]
theorem BAt.proposed {w A V7 V9 : World} {b K mb : Nat} {M : Br} {au ch : BA} {hs : Hs} {v7 v9 : Value} (h : BAt w b M K) (hb : Below w.heap.size w A) (hK : K + 1 ≤ 1000) (hl : hs.length = 32) (hn : M.opn.length < 64)
    (h7 : Made7 A b M.pv M.ov M.props.length (propC M.props) au ch hs mb v7 V7) (h9 : Made9 V7 b v7 M.ov M.opn.length (opnC M.opn) ((M.props.length + 1 : Nat) : Int) v9 V9) :
    BAt V9 b (M.with v7 v9 (Pr.new au ch hs mb)) (K + 1) ∧ BAfter w b M (M.with v7 v9 (Pr.new au ch hs mb)) V9 := by
  obtain ⟨⟨m1, m2⟩, m3, m4, ⟨g7, m5, m6, m7⟩, m8⟩ := h7
  obtain ⟨n1, n2, ⟨g9, n3, n4⟩, n5⟩ := h9
  obtain ⟨p1, p2, p3, p4⟩ := h.parts
  have hA := h.below hb
  have hlt := h.lt
  have hsz : w.heap.size ≤ A.heap.size := hb.size
  have hm7 : mb < V7.heap.size := m1.lt
  have hg7 : g7 < V7.heap.size := m3.lt m5
  have lb : b < w.heap.size := h.blk.lt
  have lpv : ∀ g, M.pv.ownBlock = some g → g < w.heap.size := fun g hg => h.prow.lt hg
  have lov : ∀ g, M.ov.ownBlock = some g → g < w.heap.size := fun g hg => h.orow.lt hg
  have lpr : ∀ k ∈ M.props.flatMap Pr.bl, k < w.heap.size := fun k hk => hlt k (by simp only [Br.bl, List.mem_cons, List.mem_append]; exact .inr (.inr (.inr hk)))
  have g7b : g7 ≠ b := by
    rintro rfl
    rcases m6 with m6 | m6
    · exact p1.1 (by simp [m6])
    · omega
  have g7o : ∀ g, M.ov.ownBlock = some g → g7 ≠ g := by
    rintro g hg rfl
    rcases m6 with m6 | m6
    · exact (p2 g7 m6).1 hg
    · have := lov g7 hg; omega
  have g7p : g7 ∉ M.props.flatMap Pr.bl := by
    intro hm
    rcases m6 with m6 | m6
    · exact (p2 g7 m6).2 hm
    · have := lpr g7 hm; omega
  have g9b : g9 ≠ b := by
    rintro rfl
    rcases n4 with n4 | n4
    · exact p1.2.1 (by simp [n4])
    · have := m4.lt; omega
  have g97 : g9 ≠ g7 := by
    rintro rfl
    rcases n4 with n4 | n4
    · exact g7o g9 n4 rfl
    · omega
  have g9m : g9 ≠ mb := by
    rintro rfl
    rcases n4 with n4 | n4
    · have := lov g9 n4; omega
    · omega
  have hV : A.heap.size ≤ V7.heap.size := m8.size
  have g9p : g9 ∉ M.props.flatMap Pr.bl := by
    intro hm
    rcases n4 with n4 | n4
    · exact p3 g9 n4 hm
    · have := lpr g9 hm; omega
  have hold : ∀ k ∈ M.props.flatMap Pr.bl, V9.heap[k]? = w.heap[k]? := by
    intro k hk
    have kl := lpr k hk
    have e1 := n5.block k (by omega) (by
      rintro (rfl | ho)
      · exact p1.2.2 hk
      · exact p3 k ho hk)
    have e2 := m8.block k (by omega) (by
      rintro (rfl | ho)
      · exact p1.2.2 hk
      · exact (p2 k ho).2 hk)
    rw [e1, e2, hb.block k kl]
  refine ⟨⟨n2, ?_, ?_, ?_, ?_, ?_, ?_, ?_, hK⟩, ?_, ?_⟩
  · show Ow V9 87 36 v7 (M.props ++ [Pr.new au ch hs mb]).length (propC (M.props ++ [Pr.new au ch hs mb]))
    rw [List.length_append, List.length_singleton, propC_snoc]
    refine m3.same fun g hg => ?_
    rw [m5] at hg
    cases hg
    exact n5.block g7 hg7 (by
      rintro (e | ho)
      · exact g7b e
      · exact g7o g7 ho rfl)
  · show Ow V9 3 1 v9 (M.opn ++ [M.props.length + 1]).length (opnC (M.opn ++ [M.props.length + 1]))
    rw [List.length_append, List.length_singleton, show opnC (M.opn ++ [M.props.length + 1]) = opnC M.opn ++ [iv ((M.props.length + 1 : Nat) : Int)] by simp [opnC]]
    exact n1
  · intro q hq
    rcases List.mem_append.1 (show q ∈ M.props ++ [Pr.new au ch hs mb] from hq) with hq | hq
    · have hp := (h.each q hq).same (w' := V9) fun k hk => hold k (List.mem_flatMap.2 ⟨q, hq, hk⟩)
      exact ⟨hp.patch, hp.votes, Nat.le_succ_of_le hp.nvotes, hp.talk, hp.ntalk⟩
    · obtain rfl : q = Pr.new au ch hs mb := by simpa using hq
      refine ⟨hl, ?_, Nat.zero_le _, Ow.nil _ _ _, Nat.zero_le _⟩
      exact m1.same (n5.block mb hm7 (by
        rintro (rfl | ho)
        · omega
        · have := lov mb ho; omega))
  · show (b :: (v7.ownBlock.toList ++ (v9.ownBlock.toList ++ (M.props ++ [Pr.new au ch hs mb]).flatMap Pr.bl))).Nodup
    rw [m5, n3, List.flatMap_append]
    have e : [Pr.new au ch hs mb].flatMap Pr.bl = [mb] := rfl
    have mbp : mb ∉ M.props.flatMap Pr.bl := fun hm => by have := lpr mb hm; omega
    rw [e]
    have hl3 : (M.props.flatMap Pr.bl ++ [mb]).Nodup := by
      rw [List.nodup_append]
      exact ⟨p4, by simp, fun x hx y hy => by simp at hy; subst hy; rintro rfl; exact mbp hx⟩
    show (b :: g7 :: g9 :: (M.props.flatMap Pr.bl ++ [mb])).Nodup
    simp only [List.nodup_cons, List.mem_cons, List.mem_append, List.not_mem_nil, or_false, not_or]
    exact ⟨⟨g7b.symm, g9b.symm, p1.2.2, by omega⟩, ⟨g97.symm, g7p, m7⟩, ⟨g9p, g9m⟩, hl3⟩
  · show (M.props ++ [Pr.new au ch hs mb]).length ≤ K + 1
    have := h.nprops
    rw [List.length_append, List.length_singleton]; omega
  · show (M.opn ++ [M.props.length + 1]).length ≤ 64
    rw [List.length_append, List.length_singleton]; omega
  · intro k hk
    show _ ∧ k ≤ (M.props ++ [Pr.new au ch hs mb]).length
    rw [List.length_append, List.length_singleton]
    rcases List.mem_append.1 (show k ∈ M.opn ++ [M.props.length + 1] from hk) with hk | hk
    · have := h.opn k hk; omega
    · have : k = M.props.length + 1 := by simpa using hk
      omega
  · intro k hk
    rw [show (M.with v7 v9 (Pr.new au ch hs mb)).bl b = b :: (v7.ownBlock.toList ++ (v9.ownBlock.toList ++ (M.props ++ [Pr.new au ch hs mb]).flatMap Pr.bl)) from rfl, m5, n3, List.flatMap_append] at hk
    simp only [Br.bl, List.mem_cons, List.mem_append, Option.toList_some, List.not_mem_nil, or_false] at hk ⊢
    rcases hk with rfl | rfl | rfl | hk | hk
    · exact .inl (.inl rfl)
    · rcases m6 with m6 | m6
      · exact .inl (.inr (.inl (by simp [m6])))
      · exact .inr (by omega)
    · rcases n4 with n4 | n4
      · exact .inl (.inr (.inr (.inl (by simp [n4]))))
      · exact .inr (by omega)
    · exact .inl (.inr (.inr (.inr hk)))
    · have : k = mb := by simpa [Pr.new, Pr.bl, Value.ownBlock] using hk
      exact .inr (by omega)
  · have k8 : Keep (fun k => k ∈ M.bl b) A V7 := m8.mono fun j _ hj => by
      simp only [Br.bl, List.mem_cons, List.mem_append]
      rcases hj with rfl | hj
      · exact .inl rfl
      · exact .inr (.inl (by simp [hj]))
    have k9 : Keep (fun k => k ∈ M.bl b) V7 V9 := n5.mono fun j _ hj => by
      simp only [Br.bl, List.mem_cons, List.mem_append]
      rcases hj with rfl | hj
      · exact .inl rfl
      · exact .inr (.inr (.inl (by simp [hj])))
    exact (Keep.below hb).trans (k8.trans k9 (fun _ hj _ => hj)) (fun _ hj _ => hj)
#print axioms BAt.proposed
/-- what Propose answers and leaves -/
def ProposeP (w : World) (b K : Nat) (M : Br) (au ch : BA) (hs : Hs) (e : Ending) (w' : World) : Prop :=
  ∃ M', BAt w' b M' (K + 1) ∧ BAfter w b M M' w' ∧
   ((M.opn.any (M.ofN ch hs) = true ∧ M' = M ∧ e = .returned (.tuple #[iv 0, iv 110])) ∨ (M.opn.any (M.ofN ch hs) = false ∧ 64 ≤ M.opn.length ∧ M' = M ∧ e = .returned (.tuple #[iv 0, iv 3])) ∨
    (M.opn.any (M.ofN ch hs) = false ∧ M.opn.length < 64 ∧ (∃ v7 v9 mb, M' = M.with v7 v9 (Pr.new au ch hs mb)) ∧ e = .returned (.tuple #[iv ((M.props.length + 1 : Nat) : Int), iv 0])))
set_option maxRecDepth 100000 in
set_option maxHeartbeats 2000000 in
theorem propose_is {w : World} {b K : Nat} {M : Br} (h : BAt w b M K) (hK : K + 1 ≤ 1000) (au ch : BA) (hs : Hs) (hl : hs.length = 32) :
    Calls Try.prog 23 #[.pointer (some ⟨b, 0, none⟩), .string au, .string ch, .agg (U hs).toArray] w (ProposeP w b K M au ch hs) := by
  obtain ⟨L, hL⟩ : ∃ L, U hs = L := ⟨_, rfl⟩
  obtain ⟨W1, hW1⟩ : ∃ W1, w.alloc (.cells #[.pointer (some ⟨b, 0, none⟩)] 25) = W1 := ⟨_, rfl⟩
  obtain ⟨W2, hW2⟩ : ∃ W2, W1.alloc (.cells #[.string ch] 9) = W2 := ⟨_, rfl⟩
  obtain ⟨W3, hW3⟩ : ∃ W3, W2.alloc (.cells L.toArray 32) = W3 := ⟨_, rfl⟩
  obtain ⟨k1, hk1⟩ : ∃ k, w.heap.size = k := ⟨_, rfl⟩
  obtain ⟨k2, hk2⟩ : ∃ k, W1.heap.size = k := ⟨_, rfl⟩
  obtain ⟨k3, hk3⟩ : ∃ k, W2.heap.size = k := ⟨_, rfl⟩
  have b1 : Below w.heap.size w W1 := by rw [← hW1]; exact below_al _ _
  have b2 : Below W1.heap.size W1 W2 := by rw [← hW2]; exact below_al _ _
  have b3 : Below W2.heap.size W2 W3 := by rw [← hW3]; exact below_al _ _
  have B3 : Below w.heap.size w W3 := below_tr (below_tr b1 b2) b3
  have x1 : Blk W1 k1 25 [.pointer (some ⟨b, 0, none⟩)] := by rw [← hk1, ← hW1]; exact Blk.new _ _ _
  have x2 : Blk W2 k2 9 [.string ch] := by rw [← hk2, ← hW2]; exact Blk.new _ _ _
  have x3 : Blk W3 k3 32 (U hs) := by rw [← hk3, ← hW3, hL]; simpa using Blk.new W2 L.toArray 32
  have y1 : Blk W3 k1 25 [.pointer (some ⟨b, 0, none⟩)] := (x1.below b2 x1.lt).below b3 (x1.below b2 x1.lt).lt
  have y2 : Blk W3 k2 9 [.string ch] := x2.below b3 x2.lt
  have hA := h.below B3
  have HBx : Hid (Blk W3 k1 25 [.pointer (some ⟨b, 0, none⟩)] ∧ Blk W3 k2 9 [.string ch] ∧ Blk W3 k3 32 (U hs)) := ⟨y1, y2, x3⟩
  have HH : Hid (BAt w b M K ∧ Below w.heap.size w W3 ∧ K + 1 ≤ 1000 ∧ hs.length = 32) := ⟨h, B3, hK, hl⟩
  have HKs : Hid (w.heap.size ≤ k1 ∧ w.heap.size ≤ k2 ∧ w.heap.size ≤ k3) := ⟨by omega, by rw [← hk2]; exact b1.size, by rw [← hk3]; exact (below_tr b1 b2).size⟩
  have HM := made_is hA.blk
  obtain ⟨oa, oc, hov, hoc, hN⟩ := hA.orow.nums
  have HC := cont46_is (M.ofN ch hs) (.pointer (some ⟨k1, 0, none⟩)) (.pointer (some ⟨k2, 0, none⟩)) (.pointer (some ⟨k3, 0, none⟩)) M.opn oa M.opn.length oc W3 hN (by have := h.nopn; omega) (fun k hk V hV => by
    exact clos46_is (hA.below hV) (h.opn k hk) hl (y1.below hV y1.lt) (y2.below hV y2.lt) (x3.below hV x3.lt))
  have c1 : W3.cell? ⟨k1, 0, none⟩ = some (.pointer (some ⟨b, 0, none⟩)) := y1.cell rfl
  have c2 : W3.cell? ⟨b, 2, none⟩ = some (.slice oa M.opn.length oc) := by rw [← hov]; exact hA.blk.cell rfl
  have HOV : Hid (M.ov = .slice oa M.opn.length oc) := hov
  have q64 : (M.opn.length : Int) ≤ 64 := by have := h.nopn; omega
  rw [hL]
  clear h hK hl b1 b2 b3 B3 x1 x2 x3 y1 y2 hA hoc hN hov
  obtain ⟨m, hm⟩ : ∃ m, M.opn.length = m := ⟨_, rfl⟩
  have HMm : Hid (M.opn.length = m) := hm
  rw [hm] at HC c2 q64
  clear hm
  cases hany : M.opn.any (M.ofN ch hs)
  · rw [hany] at HC
    have HANY : Hid (M.opn.any (M.ofN ch hs) = false) := hany
    clear hany
    go_enter Try.func23, Try.ntmps23
    go_wp2_with fail
    refine HM.mono ?_
    rintro e w1 ⟨rfl, rfl⟩
    clear HM
    go_wp2_with fail
    refine HC.mono ?_
    rintro e A ⟨rfl, hbA⟩
    have HA : Hid (Below w.heap.size w A ∧ Below W3.heap.size W3 A) := ⟨below_tr HH.out.2.1 hbA, hbA⟩
    have HBA : Hid (Blk A k1 25 [.pointer (some ⟨b, 0, none⟩)] ∧ Blk A k2 9 [.string ch] ∧ Blk A k3 32 (U hs)) := ⟨HBx.out.1.below hbA HBx.out.1.lt, HBx.out.2.1.below hbA HBx.out.2.1.lt, HBx.out.2.2.below hbA HBx.out.2.2.lt⟩
    have c1' : A.cell? ⟨k1, 0, none⟩ = some (.pointer (some ⟨b, 0, none⟩)) := HBA.out.1.cell rfl
    have HAA : Hid (BAt A b M K) := HH.out.1.below HA.out.1
    have c2' : A.cell? ⟨b, 2, none⟩ = some (.slice oa m oc) := by rw [← HMm.out, ← HOV.out]; exact HAA.out.blk.cell rfl
    clear HC hbA c1 c2
    by_cases h64 : 64 ≤ m
    · have q1 : (64 : Int) ≤ (m : Int) := by omega
      clear q64 h64
      go_wp2_with fail
      go_ret2
      refine ⟨M, HAA.out.more HH.out.2.2.1, BAfter.same HA.out.1, .inr (.inl ⟨HANY.out, ?_, rfl, rfl⟩)⟩
      rw [HMm.out]; omega
    · have q1 : (m : Int) < 64 := by omega
      have H64 : Hid (M.opn.length < 64) := by show _ < _; rw [HMm.out]; omega
      have d2 : A.cell? ⟨k2, 0, none⟩ = some (.string ch) := HBA.out.2.1.cell rfl
      have lb := HH.out.1.blk.lt
      have HL : Hid ((k1 < A.heap.size ∧ ¬ SB b M.pv k1) ∧ (k2 < A.heap.size ∧ ¬ SB b M.pv k2) ∧ (k3 < A.heap.size ∧ ¬ SB b M.pv k3) ∧ A.rangeAt k3 0 (U hs) ∧ hs.length = 32) := by
        have ns : ∀ k, w.heap.size ≤ k → ¬ SB b M.pv k := by
          rintro k hk (rfl | ho)
          · omega
          · have := HH.out.1.prow.lt ho; omega
        exact ⟨⟨HBA.out.1.lt, ns _ HKs.out.1⟩, ⟨HBA.out.2.1.lt, ns _ HKs.out.2.1⟩, ⟨HBA.out.2.2.lt, ns _ HKs.out.2.2⟩, fun j v hj => by rw [Nat.zero_add]; exact HBA.out.2.2.cell hj, HH.out.2.2.2⟩
      have HX : Hid (Blk A b 70 [.bool true, M.pv, M.ov] ∧ Ow A 87 36 M.pv M.props.length (propC M.props)) := ⟨HAA.out.blk, HAA.out.prow⟩
      have HN : Hid (M.props.length + 1 ≤ 1000000) := by show _ ≤ _; have := HH.out.1.nprops; have := HH.out.2.2.1; omega
      have HPV : Hid (∀ g, M.pv.ownBlock = some g → g < A.heap.size) := fun g hg => HAA.out.prow.lt hg
      have HNB : Hid (M.pv.ownBlock ≠ some b) := fun ho => HH.out.1.parts.1.1 (by simp [ho])
      have HLB : Hid (b < A.heap.size) := HAA.out.blk.lt
      clear q64 h64 lb
      go_wp2_with fail
      refine prop7 HL c1' d2 HX HN HPV HNB HLB ?_
      intro V7 mb v7 q h7
      have H7 : Hid (Made7 A b M.pv M.ov M.props.length (propC M.props) au ch hs mb v7 V7) := h7
      have HS7 : Hid (¬ SB b M.pv k1 ∧ ¬ SB b M.ov k1) := ⟨HL.out.1.2, by
        rintro (rfl | ho)
        · have := HH.out.1.blk.lt; have := HKs.out.1; omega
        · have := HH.out.1.orow.lt ho; have := HKs.out.1; omega⟩
      have e1 : V7.cell? ⟨k1, 0, none⟩ = some (.pointer (some ⟨b, 0, none⟩)) := (World.cell?_of_block (a := ⟨k1, 0, none⟩) (H7.out.2.2.2.2.block k1 HL.out.1.1 HS7.out.1)).trans c1'
      obtain ⟨pa, pc, hpv, _, _, _, _⟩ := H7.out.2.1.read
      have e2 : V7.cell? ⟨b, 1, none⟩ = some (.slice pa (M.props.length + 1) pc) := by rw [← hpv]; exact H7.out.2.2.1.cell rfl
      have HL9 : Hid (k1 < V7.heap.size ∧ ¬ SB b M.ov k1) := ⟨Nat.lt_of_lt_of_le HL.out.1.1 H7.out.2.2.2.2.size, HS7.out.2⟩
      have HX9 : Hid (Blk V7 b 70 [.bool true, v7, M.ov] ∧ Ow V7 3 1 M.ov M.opn.length (opnC M.opn)) := ⟨H7.out.2.2.1, HAA.out.orow.same (fun g hg => H7.out.2.2.2.2.block g (HAA.out.orow.lt hg) (by
        rintro (rfl | ho)
        · exact HH.out.1.parts.1.2.1 (by simp [hg])
        · exact (HH.out.1.parts.2.1 g ho).1 hg))⟩
      have HN9 : Hid (M.opn.length + 1 ≤ 1000000) := by show _ ≤ _; have := H64.out; omega
      have HNB9 : Hid (M.ov.ownBlock ≠ some b) := fun ho => HH.out.1.parts.1.2.1 (by simp [ho])
      have HLB9 : Hid (b < V7.heap.size) := H7.out.2.2.1.lt
      clear h7 hpv c1' c2' d2
      go_wp2_with fail
      refine prop9 (m := ((M.props.length + 1 : Nat) : Int)) HL9 e1 HX9 HN9 HNB9 HLB9 ?_
      intro V9 v9 q9 h9
      have HF : Hid (BAt V9 b (M.with v7 v9 (Pr.new au ch hs mb)) (K + 1) ∧ BAfter w b M (M.with v7 v9 (Pr.new au ch hs mb)) V9) := HH.out.1.proposed HA.out.1 HH.out.2.2.1 HH.out.2.2.2 H64.out H7.out h9
      clear h9 e1 e2
      go_wp2_with fail
      go_ret2
      exact ⟨_, HF.out.1, HF.out.2, .inr (.inr ⟨HANY.out, H64.out, ⟨v7, v9, mb, rfl⟩, rfl⟩)⟩
  · rw [hany] at HC
    have HANY : Hid (M.opn.any (M.ofN ch hs) = true) := hany
    clear hany
    go_enter Try.func23, Try.ntmps23
    go_wp2_with fail
    refine HM.mono ?_
    rintro e w1 ⟨rfl, rfl⟩
    clear HM
    go_wp2_with fail
    refine HC.mono ?_
    rintro e A ⟨rfl, hbA⟩
    have HA : Hid (Below w.heap.size w A) := below_tr HH.out.2.1 hbA
    clear HC hbA c1 c2
    go_wp2_with fail
    go_ret2
    exact ⟨M, (HH.out.1.below HA.out).more HH.out.2.2.1, BAfter.same HA.out, .inl ⟨HANY.out, rfl, rfl⟩⟩
#print axioms propose_is
end Go.Proofs.Ytaecigpjcbjcbaa.Oct
