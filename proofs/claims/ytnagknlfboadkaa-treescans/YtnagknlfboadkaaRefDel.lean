/-
  Layer 7 (tree): the reference's Delete.
-/
import Derived.Test.YtnagknlfboadkaaRefPut
namespace Go.Proofs.Ytnagknlfboadkaa.Oct
open Go.RowKit

theorem rdel_no (w : World) (a : Option Addr) (n cap k : Nat) (ps : List Pr) (key : ByteArray) (h : RdP w a n ps) (ha : AtP ps key k) (hi : isP ps key k = false) (hn : n ≤ 100000) (hc : Cap a n cap) :
    Calls Try.prog 25 #[.slice a n cap, .string key] w (Rows w ps) := by
  have HC : Hid (RdP w a n ps ∧ AtP ps key k ∧ n ≤ 100000 ∧ Cap a n cap) := ⟨h, ha, hn, hc⟩
  have HIS : Hid (isP ps key k = false) := hi
  clear h ha hi hn hc
  go_enter Try.func25, Try.ntmps25
  go_wp2_with (go_at_call 36; refine (find_is w a n cap ps key k HC.out.1 HC.out.2.1 (by have := HC.out; omega)).mono ?_; rintro e w3 ⟨rfl, HB⟩; rw [HIS.out])
  go_ret
  exact ⟨a, n, cap, rfl, ⟨HC.out.1.below HB.out (Nat.le_refl _), HC.out.2.2.2⟩, HB⟩
#print axioms rdel_no
set_option maxRecDepth 100000 in
set_option maxHeartbeats 1000000 in
theorem rdel_some (w : World) (g off n cap k : Nat) (ps : List Pr) (key : ByteArray) (h : RdP w (some ⟨g, off, none⟩) n ps) (hc : n ≤ cap) (ha : AtP ps key k) (hi : isP ps key k = true) (hjn : k + 1 ≤ n) (hcj : ¬ cap = k + 1) (hn : n ≤ 100000) :
    Calls Try.prog 25 #[.slice (some ⟨g, off, none⟩) n cap, .string key] w (Rows w (ps.take k ++ ps.drop (k + 1))) := by
  obtain ⟨i0, hi0, hii⟩ := Option.map_eq_some_iff.1 infoP
  simp only [Prod.mk.injEq] at hii
  have hby : i0.bytes ≤ 64 := by rw [hii.2.2]; omega
  have HC : Hid (RdP w (some ⟨g, off, none⟩) n ps ∧ AtP ps key k ∧ n ≤ 100001) := ⟨h, ha, by omega⟩
  have HS1 : Hid (∀ W, Below w.heap.size w W → Rd W 40 2 (some ⟨g, off, none⟩) k ((ps.take k).flatMap pc)) := fun W hW => by
    have := (h.below hW (Nat.le_refl _)).toRd.take (i := k) (by omega)
    rwa [flat_take] at this
  have HS2 : Hid (∀ W, Below w.heap.size w W → Rd W 40 2 (some ⟨g, off + (k + 1) * 2, none⟩) (n - (k + 1)) ((ps.drop (k + 1)).flatMap pc)) := fun W hW => by
    have := (h.below hW (Nat.le_refl _)).toRd.drop (j := k + 1) hjn
    rwa [flat_drop] at this
  have HIS : Hid (isP ps key k = true) := hi
  obtain ⟨T1, hT1⟩ : ∃ T1, (ps.take k).flatMap pc = T1 := ⟨_, rfl⟩
  obtain ⟨T2, hT2⟩ : ∃ T2, (ps.drop (k + 1)).flatMap pc = T2 := ⟨_, rfl⟩
  rw [hT1] at HS1
  rw [hT2] at HS2
  have HTT : Hid (T1 ++ T2 = (ps.take k ++ ps.drop (k + 1)).flatMap pc) := by show _ = _; rw [← hT1, ← hT2]; simp
  generalize ps.take k ++ ps.drop (k + 1) = PS at *
  clear hT1 hT2 h ha hi
  have q1 : (k : Int) ≤ (n : Int) := by omega
  have q2 : (n : Int) ≤ (cap : Int) := by omega
  have q3 : (0 : Int) ≤ (k : Int) := by omega
  have q4 : (n : Int) ≤ 100000 := by omega
  have q5 : ¬ cap - (k + 1) = 0 := by omega
  have q6 : (k : Int) ≤ (cap : Int) := by omega
  have q7 : (k : Int) + 1 ≤ (n : Int) := by omega
  have q10 : k < n := by omega
  have q11 : (k : Int) < (n : Int) := by omega
  have q12 : (k : Int) + 1 ≤ (cap : Int) := by omega
  have q8 : (0 : Int) ≤ (k : Int) + 1 := by omega
  have q9 : ((k : Int) + 1).toNat = k + 1 := by omega
  have q13 : IntKind.i64.wrap ((k : Int) + 1) = (k : Int) + 1 := by rw [IntKind.wrap_i64]; omega
  go_enter Try.func25, Try.ntmps25
  go_wp2_with (go_at_call 36; refine (find_is w _ n cap ps key k HC.out.1 HC.out.2.1 (by have := HC.out; omega)).mono ?_; rintro e w3 ⟨rfl, HB⟩; rw [HIS.out])
  go_region_held_law (fun _ => True) (trivial) (first
    | (refine step_append_bs (by rfl) 20 rfl _ _ 27 rfl _ 40 i0 _ 2 w.heap.size Try.underlying27 hi0 hii.1 hii.2.1 hby rfl (by omega) (.slice (some ⟨w3.heap.size, 0, none⟩) 0 0) 0 [] (.inl ⟨_, rfl, Rd.nil _ _ _ _, .inr ⟨_, _, rfl⟩⟩) (some ⟨g, off, none⟩) k cap T1 rfl rfl (HS1.out _ (HB.out.drew.alloc HB.out.size _)) (by have := HB.out.size; simp; omega) (by have := HC.out; omega) ?_; intro v4 w4 HO4 HB4; rw [Nat.zero_add, List.nil_append] at HO4; have HW4 : Hid (Below w.heap.size w w4) := (HB.out.drew.alloc HB.out.size _).trans HB4.out; obtain ⟨a4, cap4, rfl, _⟩ := HO4.out.read)
    | (refine step_append_bs (by rfl) 25 rfl _ _ 27 rfl w4 40 i0 _ 2 w.heap.size Try.underlying27 hi0 hii.1 hii.2.1 hby rfl (by omega) _ _ _ HO4.out (some ⟨g, off + (k + 1) * 2, none⟩) (n - (k + 1)) (cap - (k + 1)) T2 rfl rfl (HS2.out w4 HW4.out) HW4.out.size (by have := HC.out; omega) ?_; intro v6 w6 HO6 HB6; have HW6 : Hid (Below w.heap.size w w6) := HW4.out.trans HB6.out; obtain ⟨a6, cap6, rfl, h6, h7, h8⟩ := HO6.out.read))
  go_wp2
  go_ret
  exact ⟨a6, _, cap6, rfl, ⟨(show Rd w6 40 2 a6 _ _ by rw [← HTT.out]; exact h7).toP, h6, h8⟩, HW6⟩
#print axioms rdel_some
set_option maxRecDepth 100000 in
set_option maxHeartbeats 1000000 in
theorem rdel_full (w : World) (g off k : Nat) (ps : List Pr) (key : ByteArray) (h : RdP w (some ⟨g, off, none⟩) (k + 1) ps) (ha : AtP ps key k) (hi : isP ps key k = true) (hn : k ≤ 100000) :
    Calls Try.prog 25 #[.slice (some ⟨g, off, none⟩) (k + 1) (k + 1), .string key] w (Rows w (ps.take k ++ ps.drop (k + 1))) := by
  obtain ⟨i0, hi0, hii⟩ := Option.map_eq_some_iff.1 infoP
  simp only [Prod.mk.injEq] at hii
  have hby : i0.bytes ≤ 64 := by rw [hii.2.2]; omega
  have HC : Hid (RdP w (some ⟨g, off, none⟩) (k + 1) ps ∧ AtP ps key k ∧ k + 1 ≤ 100001) := ⟨h, ha, by omega⟩
  have HS1 : Hid (∀ W, Below w.heap.size w W → Rd W 40 2 (some ⟨g, off, none⟩) k ((ps.take k).flatMap pc)) := fun W hW => by
    have := (h.below hW (Nat.le_refl _)).toRd.take (i := k) (by omega)
    rwa [flat_take] at this
  have HS2 : Hid (∀ W, Below w.heap.size w W → Rd W 40 2 (some ⟨g, off, none⟩) 0 ((ps.drop (k + 1)).flatMap pc)) := fun W hW => by
    rw [List.drop_eq_nil_of_le (by rw [h.1]; exact Nat.le_refl _)]; exact Rd.nil W 40 2 _
  have HIS : Hid (isP ps key k = true) := hi
  obtain ⟨T1, hT1⟩ : ∃ T1, (ps.take k).flatMap pc = T1 := ⟨_, rfl⟩
  obtain ⟨T2, hT2⟩ : ∃ T2, (ps.drop (k + 1)).flatMap pc = T2 := ⟨_, rfl⟩
  rw [hT1] at HS1
  rw [hT2] at HS2
  have HTT : Hid (T1 ++ T2 = (ps.take k ++ ps.drop (k + 1)).flatMap pc) := by show _ = _; rw [← hT1, ← hT2]; simp
  generalize ps.take k ++ ps.drop (k + 1) = PS at *
  clear hT1 hT2 h ha hi
  have q3 : (0 : Int) ≤ (k : Int) := by omega
  have q4 : (k : Int) ≤ 100000 := by omega
  have q7 : (k : Int) ≤ (k : Int) + 1 := by omega
  have q8 : (0 : Int) ≤ (k : Int) + 1 := by omega
  have q9 : ((k : Int) + 1).toNat = k + 1 := by omega
  have q13 : IntKind.i64.wrap ((k : Int) + 1) = (k : Int) + 1 := by rw [IntKind.wrap_i64]; omega
  go_enter Try.func25, Try.ntmps25
  go_wp2_with (go_at_call 36; refine (find_is w _ (k + 1) (k + 1) ps key k HC.out.1 HC.out.2.1 (by have := HC.out; omega)).mono ?_; rintro e w3 ⟨rfl, HB⟩; rw [HIS.out])
  go_region_held_law (fun _ => True) (trivial) (first
    | (refine step_append_bs (by rfl) 20 rfl _ _ 27 rfl _ 40 i0 _ 2 w.heap.size Try.underlying27 hi0 hii.1 hii.2.1 hby rfl (by omega) (.slice (some ⟨w3.heap.size, 0, none⟩) 0 0) 0 [] (.inl ⟨_, rfl, Rd.nil _ _ _ _, .inr ⟨_, _, rfl⟩⟩) (some ⟨g, off, none⟩) k (k + 1) T1 rfl rfl (HS1.out _ (HB.out.drew.alloc HB.out.size _)) (by have := HB.out.size; simp; omega) (by have := HC.out; omega) ?_; intro v4 w4 HO4 HB4; rw [Nat.zero_add, List.nil_append] at HO4; have HW4 : Hid (Below w.heap.size w w4) := (HB.out.drew.alloc HB.out.size _).trans HB4.out; obtain ⟨a4, cap4, rfl, _⟩ := HO4.out.read)
    | (refine step_append_bs (by rfl) 25 rfl _ _ 27 rfl w4 40 i0 _ 2 w.heap.size Try.underlying27 hi0 hii.1 hii.2.1 hby rfl (by omega) _ _ _ HO4.out (some ⟨g, off, none⟩) 0 0 T2 rfl rfl (HS2.out w4 HW4.out) HW4.out.size (by have := HC.out; omega) ?_; intro v6 w6 HO6 HB6; have HW6 : Hid (Below w.heap.size w w6) := HW4.out.trans HB6.out; obtain ⟨a6, cap6, rfl, h6, h7, h8⟩ := HO6.out.read))
  go_wp2
  go_ret
  exact ⟨a6, _, cap6, rfl, ⟨(show Rd w6 40 2 a6 _ _ by rw [← HTT.out]; exact h7).toP, h6, h8⟩, HW6⟩
#print axioms rdel_full
theorem rdel_is (w : World) (a : Option Addr) (n cap : Nat) (ps : List Pr) (key : ByteArray) (h : RdP w a n ps) (hc : Cap a n cap) (hr : Ris ps) (hn : n ≤ 100000) : Calls Try.prog 25 #[.slice a n cap, .string key] w (Rows w (remP ps key)) := by
  obtain ⟨k, ha⟩ := find_at ps key (ris_mono hr key)
  cases hi : isP ps key k with
  | false =>
    rw [rem_no hr key (eqs_no hr ha hi)]
    exact rdel_no w a n cap k ps key h ha hi hn hc
  | true =>
    rw [rem_at hr ha hi]
    obtain ⟨y, hy, _⟩ := eqs_is hr ha hi
    have hkn' : k < n := by rw [← h.1]; exact (List.getElem?_eq_some_iff.1 hy).1
    rcases hc with ⟨hc1, ⟨rfl, rfl⟩ | ⟨g, off, rfl⟩⟩
    · omega
    · by_cases hcj : cap = k + 1
      · subst hcj
        have : n = k + 1 := by omega
        subst this
        exact rdel_full w g off k ps key h ha hi (by omega)
      · exact rdel_some w g off n cap k ps key h hc1 ha hi hkn' hcj hn
#print axioms rdel_is
end Go.Proofs.Ytnagknlfboadkaa.Oct
