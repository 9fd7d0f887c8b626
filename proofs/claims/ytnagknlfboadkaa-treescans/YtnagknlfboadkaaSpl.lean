/-
  Layer 7 (tree): 'part' and 'spliced' of pairs and of nodes, whatever is put in.
-/
import Derived.Test.YtnagknlfboadkaaRow
import Derived.Test.YtnagknlfboadkaaRows
import Derived.WalkKit
namespace Go.Proofs.Ytnagknlfboadkaa.Oct
open Go.RowKit
theorem partP_nil (w : World) : Calls Try.prog 48 #[.slice none 0 0, .int .i64 0, .int .i64 0] w fun e w' => e = .returned (.slice none 0 0) ∧ w = w' := by
  go_enter Try.func48, Try.ntmps48
  go_wp2
  go_ret
  exact ⟨rfl, rfl⟩
theorem partP_zero (w : World) (g off n cap j : Nat) (h2 : j ≤ cap) : Calls Try.prog 48 #[.slice (some ⟨g, off, none⟩) n cap, .int .i64 0, .int .i64 (j : Int)] w fun e w' => e = .returned (.slice (some ⟨g, off, none⟩) j j) ∧ w = w' := by
  have q3 : (j : Int) ≤ (cap : Int) := by omega
  go_enter Try.func48, Try.ntmps48
  go_wp2
  go_ret
  exact ⟨rfl, rfl⟩
theorem infoP : (Try.prog.info? 40).map (fun i => (i.zero, i.size, i.bytes)) = some (some (.agg #[.string ⟨#[]⟩, .string ⟨#[]⟩]), 2, 32) := by kernel_rfl
set_option maxRecDepth 100000 in
set_option maxHeartbeats 1000000 in
theorem splP (w : World) (a : Option Addr) (n cap i j : Nat) (I J : Int) (hI : I = (i : Int)) (hJ : J = (j : Int)) (cs : List Value) (o : Option Addr) (q c : Nat) (qs : List Value) (h : Rd w 40 2 a n cs) (hac : Ad a cap) (hnc : n ≤ cap) (hij : i ≤ j) (hjn : j ≤ n) (ho : Rd w 40 2 o q qs) (hb : n + q ≤ 1000000) :
    Calls Try.prog 40 #[.slice a n cap, .int .i64 I, .int .i64 J, .slice o q c] w fun e w' => ∃ (a' : Option Addr) (n' cap' : Nat) (cs' : List Value), e = .returned (.slice a' n' cap') ∧ Hid (cs' = cs.take (i * 2) ++ qs ++ cs.drop (j * 2) ∧ n' = i + q + (n - j) ∧ n' ≤ cap' ∧ Ad a' cap') ∧ Hid (Rd w' 40 2 a' n' cs') ∧ Hid (Below w.heap.size w w') := by
  subst hI; subst hJ
  obtain ⟨i0, hi0, hii⟩ := Option.map_eq_some_iff.1 infoP
  simp only [Prod.mk.injEq] at hii
  have HO : Hid (Rd w.drew 40 2 o q qs) := ho.below (Below.refl _ w).drew (Nat.le_refl _)
  have HN : Hid (n + q ≤ 1000000 ∧ i ≤ j ∧ j ≤ n ∧ n ≤ cap) := ⟨hb, hij, hjn, hnc⟩
  have HB1 : Hid (Bs 40 2 w.heap.size w.drew (.slice a i i) i (cs.take (i * 2))) := .inl ⟨a, rfl, (h.below (Below.refl _ w).drew (Nat.le_refl _)).take (by omega), by
    rcases hac with ⟨rfl, rfl⟩ | ⟨g, off, rfl⟩
    · exact .inl ⟨rfl, by omega⟩
    · exact .inr ⟨g, off, rfl⟩⟩
  have hby : i0.bytes ≤ 64 := by rw [hii.2.2]; omega
  rcases hac with ⟨rfl, rfl⟩ | ⟨g, off, rfl⟩
  · have hn0 : n = 0 := by omega
    subst hn0
    have hj0 : j = 0 := by omega
    subst hj0
    have hi0' : i = 0 := by omega
    subst hi0'
    have HD : Hid (∀ W, Rd W 40 2 none 0 (cs.drop (0 * 2))) := fun W => by
      have : cs = [] := List.eq_nil_of_length_eq_zero (by simpa using h.1)
      rw [this]; exact Rd.nil W 40 2 none
    obtain ⟨T1, hT1⟩ : ∃ T1, cs.take (0 * 2) = T1 := ⟨_, rfl⟩
    obtain ⟨T2, hT2⟩ : ∃ T2, cs.drop (0 * 2) = T2 := ⟨_, rfl⟩
    rw [hT1] at HB1 ⊢
    rw [hT2] at HD ⊢
    clear h hnc hij hjn ho hb hT1 hT2
    go_enter Try.func40, Try.ntmps40
    go_wp2
    go_region_held_law (fun _ => True) (trivial) (first
      | (go_at_call 48; refine (partP_nil w.drew).mono ?_; rintro e w2 ⟨rfl, rfl⟩)
      | (refine step_append_bs (by rfl) 13 rfl _ _ 27 rfl w.drew 40 i0 _ 2 w.heap.size Try.underlying27 hi0 hii.1 hii.2.1 hby rfl (by omega) (.slice none 0 0) 0 T1 HB1.out o q c qs rfl rfl HO.out (Nat.le_refl _) (by have := HN.out; omega) ?_; intro v3 w3 HO3 HB3; obtain ⟨a3, cap3, rfl, _⟩ := HO3.out.read)
      | (refine step_append_bs (by rfl) 17 rfl _ _ 27 rfl w3 40 i0 _ 2 w.heap.size Try.underlying27 hi0 hii.1 hii.2.1 hby rfl (by omega) _ _ _ HO3.out none 0 0 T2 rfl rfl (HD.out w3) HB3.out.size (by have := HN.out; omega) ?_; intro v4 w4 HO4 HB4; obtain ⟨a4, cap4, rfl, h4, h5, h6⟩ := HO4.out.read))
    have e4 : 0 + q + 0 = q := by omega
    rw [e4] at h4 h5
    go_wp2
    go_ret
    exact ⟨a4, q, cap4, _, rfl, ⟨rfl, by omega, h4, h6⟩, h5, ((Below.refl _ w).drew.trans HB3.out).trans HB4.out⟩
  · have q1 : (0 : Int) ≤ (j : Int) := by omega
    have q2 : (j : Int) ≤ (n : Int) := by omega
    have q3 : (n : Int) ≤ (cap : Int) := by omega
    have q5 : i ≤ cap := by omega
    by_cases hcj : cap = j
    · have hjn' : j = n := by omega
      subst hcj
      subst hjn'
      have HD : Hid (∀ W, Rd W 40 2 (some ⟨g, off, none⟩) 0 (cs.drop (cap * 2))) := fun W => by
        rw [List.drop_eq_nil_of_le (by rw [h.1]; exact Nat.le_refl _)]; exact Rd.nil W 40 2 _
      obtain ⟨T1, hT1⟩ : ∃ T1, cs.take (i * 2) = T1 := ⟨_, rfl⟩
      obtain ⟨T2, hT2⟩ : ∃ T2, cs.drop (cap * 2) = T2 := ⟨_, rfl⟩
      rw [hT1] at HB1 ⊢
      rw [hT2] at HD ⊢
      clear h hnc hij hjn ho hb hT1 hT2
      go_enter Try.func40, Try.ntmps40
      go_wp2
      go_region_held_law (fun _ => True) (trivial) (first
        | (go_at_call 48; refine (partP_zero w.drew g off cap cap i q5).mono ?_; rintro e w2 ⟨rfl, rfl⟩)
        | (refine step_append_bs (by rfl) 13 rfl _ _ 27 rfl w.drew 40 i0 _ 2 w.heap.size Try.underlying27 hi0 hii.1 hii.2.1 hby rfl (by omega) (.slice (some ⟨g, off, none⟩) i i) i T1 HB1.out o q c qs rfl rfl HO.out (Nat.le_refl _) (by have := HN.out; omega) ?_; intro v3 w3 HO3 HB3; obtain ⟨a3, cap3, rfl, _⟩ := HO3.out.read)
        | (refine step_append_bs (by rfl) 17 rfl _ _ 27 rfl w3 40 i0 _ 2 w.heap.size Try.underlying27 hi0 hii.1 hii.2.1 hby rfl (by omega) _ _ _ HO3.out (some ⟨g, off, none⟩) 0 0 T2 rfl rfl (HD.out w3) HB3.out.size (by have := HN.out; omega) ?_; intro v4 w4 HO4 HB4; obtain ⟨a4, cap4, rfl, h4, h5, h6⟩ := HO4.out.read))
      go_wp2
      go_ret
      exact ⟨a4, _, cap4, _, rfl, ⟨rfl, by omega, h4, h6⟩, h5, ((Below.refl _ w).drew.trans HB3.out).trans HB4.out⟩
    · have HD : Hid (∀ W, Below w.heap.size w W → Rd W 40 2 (some ⟨g, off + j * 2, none⟩) (n - j) (cs.drop (j * 2))) := fun W hW => (h.below hW (Nat.le_refl _)).drop hjn
      have q4 : ¬ cap - j = 0 := by omega
      obtain ⟨T1, hT1⟩ : ∃ T1, cs.take (i * 2) = T1 := ⟨_, rfl⟩
      obtain ⟨T2, hT2⟩ : ∃ T2, cs.drop (j * 2) = T2 := ⟨_, rfl⟩
      rw [hT1] at HB1 ⊢
      rw [hT2] at HD ⊢
      clear h hnc hij hjn ho hb hT1 hT2 hcj
      go_enter Try.func40, Try.ntmps40
      go_wp2
      go_region_held_law (fun _ => True) (trivial) (first
        | (go_at_call 48; refine (partP_zero w.drew g off n cap i q5).mono ?_; rintro e w2 ⟨rfl, rfl⟩)
        | (refine step_append_bs (by rfl) 13 rfl _ _ 27 rfl w.drew 40 i0 _ 2 w.heap.size Try.underlying27 hi0 hii.1 hii.2.1 hby rfl (by omega) (.slice (some ⟨g, off, none⟩) i i) i T1 HB1.out o q c qs rfl rfl HO.out (Nat.le_refl _) (by have := HN.out; omega) ?_; intro v3 w3 HO3 HB3; obtain ⟨a3, cap3, rfl, _⟩ := HO3.out.read)
        | (refine step_append_bs (by rfl) 17 rfl _ _ 27 rfl w3 40 i0 _ 2 w.heap.size Try.underlying27 hi0 hii.1 hii.2.1 hby rfl (by omega) _ _ _ HO3.out (some ⟨g, off + j * 2, none⟩) (n - j) (cap - j) T2 rfl rfl (HD.out w3 ((Below.refl _ w).drew.trans HB3.out)) HB3.out.size (by have := HN.out; omega) ?_; intro v4 w4 HO4 HB4; obtain ⟨a4, cap4, rfl, h4, h5, h6⟩ := HO4.out.read))
      go_wp2
      go_ret
      exact ⟨a4, _, cap4, _, rfl, ⟨rfl, rfl, h4, h6⟩, h5, ((Below.refl _ w).drew.trans HB3.out).trans HB4.out⟩
#print axioms splP
theorem partK_nil (w : World) : Calls Try.prog 50 #[.slice none 0 0, .int .i64 0, .int .i64 0] w fun e w' => e = .returned (.slice none 0 0) ∧ w = w' := by
  go_enter Try.func50, Try.ntmps50
  go_wp2
  go_ret
  exact ⟨rfl, rfl⟩
theorem partK_zero (w : World) (g off n cap j : Nat) (h2 : j ≤ cap) : Calls Try.prog 50 #[.slice (some ⟨g, off, none⟩) n cap, .int .i64 0, .int .i64 (j : Int)] w fun e w' => e = .returned (.slice (some ⟨g, off, none⟩) j j) ∧ w = w' := by
  have q3 : (j : Int) ≤ (cap : Int) := by omega
  go_enter Try.func50, Try.ntmps50
  go_wp2
  go_ret
  exact ⟨rfl, rfl⟩
theorem infoK : (Try.prog.info? 46).map (fun i => (i.zero, i.size, i.bytes)) = some (some (.pointer none), 1, 8) := by kernel_rfl
set_option maxRecDepth 100000 in
set_option maxHeartbeats 1000000 in
theorem splK (w : World) (a : Option Addr) (n cap i j : Nat) (I J : Int) (hI : I = (i : Int)) (hJ : J = (j : Int)) (cs : List Value) (o : Option Addr) (q c : Nat) (qs : List Value) (h : Rd w 46 1 a n cs) (hac : Ad a cap) (hnc : n ≤ cap) (hij : i ≤ j) (hjn : j ≤ n) (ho : Rd w 46 1 o q qs) (hb : n + q ≤ 1000000) :
    Calls Try.prog 45 #[.slice a n cap, .int .i64 I, .int .i64 J, .slice o q c] w fun e w' => ∃ (a' : Option Addr) (n' cap' : Nat) (cs' : List Value), e = .returned (.slice a' n' cap') ∧ Hid (cs' = cs.take (i * 1) ++ qs ++ cs.drop (j * 1) ∧ n' = i + q + (n - j) ∧ n' ≤ cap' ∧ Ad a' cap') ∧ Hid (Rd w' 46 1 a' n' cs') ∧ Hid (Below w.heap.size w w') := by
  subst hI; subst hJ
  obtain ⟨i0, hi0, hii⟩ := Option.map_eq_some_iff.1 infoK
  simp only [Prod.mk.injEq] at hii
  have HO : Hid (Rd w.drew 46 1 o q qs) := ho.below (Below.refl _ w).drew (Nat.le_refl _)
  have HN : Hid (n + q ≤ 1000000 ∧ i ≤ j ∧ j ≤ n ∧ n ≤ cap) := ⟨hb, hij, hjn, hnc⟩
  have HB1 : Hid (Bs 46 1 w.heap.size w.drew (.slice a i i) i (cs.take (i * 1))) := .inl ⟨a, rfl, (h.below (Below.refl _ w).drew (Nat.le_refl _)).take (by omega), by
    rcases hac with ⟨rfl, rfl⟩ | ⟨g, off, rfl⟩
    · exact .inl ⟨rfl, by omega⟩
    · exact .inr ⟨g, off, rfl⟩⟩
  have hby : i0.bytes ≤ 64 := by rw [hii.2.2]; omega
  rcases hac with ⟨rfl, rfl⟩ | ⟨g, off, rfl⟩
  · have hn0 : n = 0 := by omega
    subst hn0
    have hj0 : j = 0 := by omega
    subst hj0
    have hi0' : i = 0 := by omega
    subst hi0'
    have HD : Hid (∀ W, Rd W 46 1 none 0 (cs.drop (0 * 1))) := fun W => by
      have : cs = [] := List.eq_nil_of_length_eq_zero (by simpa using h.1)
      rw [this]; exact Rd.nil W 46 1 none
    obtain ⟨T1, hT1⟩ : ∃ T1, cs.take (0 * 1) = T1 := ⟨_, rfl⟩
    obtain ⟨T2, hT2⟩ : ∃ T2, cs.drop (0 * 1) = T2 := ⟨_, rfl⟩
    rw [hT1] at HB1 ⊢
    rw [hT2] at HD ⊢
    clear h hnc hij hjn ho hb hT1 hT2
    go_enter Try.func45, Try.ntmps45
    go_wp2
    go_region_held_law (fun _ => True) (trivial) (first
      | (go_at_call 50; refine (partK_nil w.drew).mono ?_; rintro e w2 ⟨rfl, rfl⟩)
      | (refine step_append_bs (by rfl) 13 rfl _ _ 65 rfl w.drew 46 i0 _ 1 w.heap.size Try.underlying65 hi0 hii.1 hii.2.1 hby rfl (by omega) (.slice none 0 0) 0 T1 HB1.out o q c qs rfl rfl HO.out (Nat.le_refl _) (by have := HN.out; omega) ?_; intro v3 w3 HO3 HB3; obtain ⟨a3, cap3, rfl, _⟩ := HO3.out.read)
      | (refine step_append_bs (by rfl) 17 rfl _ _ 65 rfl w3 46 i0 _ 1 w.heap.size Try.underlying65 hi0 hii.1 hii.2.1 hby rfl (by omega) _ _ _ HO3.out none 0 0 T2 rfl rfl (HD.out w3) HB3.out.size (by have := HN.out; omega) ?_; intro v4 w4 HO4 HB4; obtain ⟨a4, cap4, rfl, h4, h5, h6⟩ := HO4.out.read))
    have e4 : 0 + q + 0 = q := by omega
    rw [e4] at h4 h5
    go_wp2
    go_ret
    exact ⟨a4, q, cap4, _, rfl, ⟨rfl, by omega, h4, h6⟩, h5, ((Below.refl _ w).drew.trans HB3.out).trans HB4.out⟩
  · have q1 : (0 : Int) ≤ (j : Int) := by omega
    have q2 : (j : Int) ≤ (n : Int) := by omega
    have q3 : (n : Int) ≤ (cap : Int) := by omega
    have q5 : i ≤ cap := by omega
    by_cases hcj : cap = j
    · have hjn' : j = n := by omega
      subst hcj
      subst hjn'
      have HD : Hid (∀ W, Rd W 46 1 (some ⟨g, off, none⟩) 0 (cs.drop (cap * 1))) := fun W => by
        rw [List.drop_eq_nil_of_le (by rw [h.1]; exact Nat.le_refl _)]; exact Rd.nil W 46 1 _
      obtain ⟨T1, hT1⟩ : ∃ T1, cs.take (i * 1) = T1 := ⟨_, rfl⟩
      obtain ⟨T2, hT2⟩ : ∃ T2, cs.drop (cap * 1) = T2 := ⟨_, rfl⟩
      rw [hT1] at HB1 ⊢
      rw [hT2] at HD ⊢
      clear h hnc hij hjn ho hb hT1 hT2
      go_enter Try.func45, Try.ntmps45
      go_wp2
      go_region_held_law (fun _ => True) (trivial) (first
        | (go_at_call 50; refine (partK_zero w.drew g off cap cap i q5).mono ?_; rintro e w2 ⟨rfl, rfl⟩)
        | (refine step_append_bs (by rfl) 13 rfl _ _ 65 rfl w.drew 46 i0 _ 1 w.heap.size Try.underlying65 hi0 hii.1 hii.2.1 hby rfl (by omega) (.slice (some ⟨g, off, none⟩) i i) i T1 HB1.out o q c qs rfl rfl HO.out (Nat.le_refl _) (by have := HN.out; omega) ?_; intro v3 w3 HO3 HB3; obtain ⟨a3, cap3, rfl, _⟩ := HO3.out.read)
        | (refine step_append_bs (by rfl) 17 rfl _ _ 65 rfl w3 46 i0 _ 1 w.heap.size Try.underlying65 hi0 hii.1 hii.2.1 hby rfl (by omega) _ _ _ HO3.out (some ⟨g, off, none⟩) 0 0 T2 rfl rfl (HD.out w3) HB3.out.size (by have := HN.out; omega) ?_; intro v4 w4 HO4 HB4; obtain ⟨a4, cap4, rfl, h4, h5, h6⟩ := HO4.out.read))
      go_wp2
      go_ret
      exact ⟨a4, _, cap4, _, rfl, ⟨rfl, by omega, h4, h6⟩, h5, ((Below.refl _ w).drew.trans HB3.out).trans HB4.out⟩
    · have HD : Hid (∀ W, Below w.heap.size w W → Rd W 46 1 (some ⟨g, off + j, none⟩) (n - j) (cs.drop (j * 1))) := fun W hW => by
        have e := (h.below hW (Nat.le_refl _)).drop hjn
        rw [show off + j * 1 = off + j by omega] at e
        exact e
      have q4 : ¬ cap - j = 0 := by omega
      obtain ⟨T1, hT1⟩ : ∃ T1, cs.take (i * 1) = T1 := ⟨_, rfl⟩
      obtain ⟨T2, hT2⟩ : ∃ T2, cs.drop (j * 1) = T2 := ⟨_, rfl⟩
      rw [hT1] at HB1 ⊢
      rw [hT2] at HD ⊢
      clear h hnc hij hjn ho hb hT1 hT2 hcj
      go_enter Try.func45, Try.ntmps45
      go_wp2
      go_region_held_law (fun _ => True) (trivial) (first
        | (go_at_call 50; refine (partK_zero w.drew g off n cap i q5).mono ?_; rintro e w2 ⟨rfl, rfl⟩)
        | (refine step_append_bs (by rfl) 13 rfl _ _ 65 rfl w.drew 46 i0 _ 1 w.heap.size Try.underlying65 hi0 hii.1 hii.2.1 hby rfl (by omega) (.slice (some ⟨g, off, none⟩) i i) i T1 HB1.out o q c qs rfl rfl HO.out (Nat.le_refl _) (by have := HN.out; omega) ?_; intro v3 w3 HO3 HB3; obtain ⟨a3, cap3, rfl, _⟩ := HO3.out.read)
        | (refine step_append_bs (by rfl) 17 rfl _ _ 65 rfl w3 46 i0 _ 1 w.heap.size Try.underlying65 hi0 hii.1 hii.2.1 hby rfl (by omega) _ _ _ HO3.out (some ⟨g, off + j, none⟩) (n - j) (cap - j) T2 rfl rfl (HD.out w3 ((Below.refl _ w).drew.trans HB3.out)) HB3.out.size (by have := HN.out; omega) ?_; intro v4 w4 HO4 HB4; obtain ⟨a4, cap4, rfl, h4, h5, h6⟩ := HO4.out.read))
      go_wp2
      go_ret
      exact ⟨a4, _, cap4, _, rfl, ⟨rfl, rfl, h4, h6⟩, h5, ((Below.refl _ w).drew.trans HB3.out).trans HB4.out⟩
#print axioms splK
end Go.Proofs.Ytnagknlfboadkaa.Oct
