/-
  Layer 7 (tree): the reference's Delete.
  Layer 7 (tree): the reference's Scan.
  Layer 7 (tree): a key with a number.
  Layer 7 (tree): 'told' of a map of any keys.
  Layer 7 (tree): a call of both, the map and the list: Put and Delete.
  Layer 7 (tree): a call of both, the map and the list: many Puts.
  Layer 7 (tree): a call of both, the map and the list: many Deletes.
  Layer 7 (tree): a call of both, the map and the list: Delete.
  Layer 7 (tree): a call of both, the map and the list: Get.
  Layer 7 (tree): a call of both, the map and the list: Scan.
  Layer 7 (tree): the laws' lists of calls among their arguments, as the walks take them.
  Layer 7 (tree): a call of both; the keys' sizes stay bounded.
  Layer 7 (tree): Put; the keys' sizes stay bounded.
  Layer 7 (tree): Delete; the keys' sizes stay bounded.
  Layer 7 (tree): Get; the keys' sizes stay bounded.
  Layer 7 (tree): Scan; the keys' sizes stay bounded.
  Layer 7 (tree): many Puts; the keys' sizes stay bounded.
  Layer 7 (tree): many Dels; the keys' sizes stay bounded.
  Layer 7 (tree): a call of both, whatever it is; the keys' sizes stay bounded.
  Layer 7 (tree): are calls few enough?
  Layer 7 (tree): the law TreeShallow.
-/
import Derived.Test.YtnagknlfboadkaaSc6
import Derived.Laws.IdiomStrings
import Derived.Deep.Slices
import Derived.ChangeSame
import Derived.OpenShut
import Derived.ShutString
import Derived.ChangeOld
/- Layer 7 (tree): the reference's Delete. -/
namespace Go.Proofs.Ytnagknlfboadkaa.Oct
open Go.RowKit

theorem rdel_no (w : World) (a : Option Addr) (n cap k : Nat) (ps : List Pr) (key : ByteArray) (h : RdP w a n ps) (ha : AtP ps key k) (hi : isP ps key k = false) (hn : n ≤ 100000) (hc : Cap a n cap) :
    Calls Try.prog 25 #[.slice a n cap, .string key] w (Rows w ps) := by
  have HC : Hid (RdP w a n ps ∧ AtP ps key k ∧ n ≤ 100000 ∧ Cap a n cap) := ⟨h, ha, hn, hc⟩
  have HIS : Hid (isP ps key k = false) := hi
  clear h ha hi hn hc
  go_enter Try.func25, Try.ntmps25
  go_wp2_with (go_at_call 36; refine (find_is w a n cap ps key k HC.out.1 HC.out.2.1 (by have := HC.out; omega)).mono ?_; rintro e w3 ⟨rfl, HB⟩; rw [HIS.out])
  go_ret
  exact ⟨a, n, cap, rfl, ⟨HC.out.1.below HB.out (Nat.le_refl _), HC.out.2.2.2⟩, HB⟩
set_option maxRecDepth 100000 in
set_option maxHeartbeats 1000000 in
theorem rdel_some (w : World) (g off n cap k : Nat) (ps : List Pr) (key : ByteArray) (h : RdP w (some ⟨g, off, none⟩) n ps) (hc : n ≤ cap) (ha : AtP ps key k) (hi : isP ps key k = true) (hjn : k + 1 ≤ n) (hcj : ¬ cap = k + 1) (hn : n ≤ 100000) :
    Calls Try.prog 25 #[.slice (some ⟨g, off, none⟩) n cap, .string key] w (Rows w (ps.take k ++ ps.drop (k + 1))) := by
  obtain ⟨i0, hi0, hii⟩ := Option.map_eq_some_iff.1 infoP
  simp only [Prod.mk.injEq] at hii
  have hby : i0.bytes ≤ 64 := by rw [hii.2.2]; omega
  have HC : Hid (RdP w (some ⟨g, off, none⟩) n ps ∧ AtP ps key k ∧ n ≤ 100001) := ⟨h, ha, by omega⟩
  have HS1 : Hid (∀ W, Below w.heap.size w W → Rd W 40 2 (some ⟨g, off, none⟩) k ((ps.take k).flatMap pc)) := fun W hW => by
    have := (h.below hW (Nat.le_refl _)).toRd.take (i := k) (by omega)
    rwa [flat_take] at this
  have HS2 : Hid (∀ W, Below w.heap.size w W → Rd W 40 2 (some ⟨g, off + (k + 1) * 2, none⟩) (n - (k + 1)) ((ps.drop (k + 1)).flatMap pc)) := fun W hW => by
    have := (h.below hW (Nat.le_refl _)).toRd.drop (j := k + 1) hjn
    rwa [flat_drop] at this
  have HIS : Hid (isP ps key k = true) := hi
  obtain ⟨T1, hT1⟩ : ∃ T1, (ps.take k).flatMap pc = T1 := ⟨_, rfl⟩
  obtain ⟨T2, hT2⟩ : ∃ T2, (ps.drop (k + 1)).flatMap pc = T2 := ⟨_, rfl⟩
  rw [hT1] at HS1
  rw [hT2] at HS2
  have HTT : Hid (T1 ++ T2 = (ps.take k ++ ps.drop (k + 1)).flatMap pc) := by show _ = _; rw [← hT1, ← hT2]; simp
  generalize ps.take k ++ ps.drop (k + 1) = PS at *
  clear hT1 hT2 h ha hi
  have q1 : (k : Int) ≤ (n : Int) := by omega
  have q2 : (n : Int) ≤ (cap : Int) := by omega
  have q3 : (0 : Int) ≤ (k : Int) := by omega
  have q4 : (n : Int) ≤ 100000 := by omega
  have q5 : ¬ cap - (k + 1) = 0 := by omega
  have q6 : (k : Int) ≤ (cap : Int) := by omega
  have q7 : (k : Int) + 1 ≤ (n : Int) := by omega
  have q10 : k < n := by omega
  have q11 : (k : Int) < (n : Int) := by omega
  have q12 : (k : Int) + 1 ≤ (cap : Int) := by omega
  have q8 : (0 : Int) ≤ (k : Int) + 1 := by omega
  have q9 : ((k : Int) + 1).toNat = k + 1 := by omega
  have q13 : IntKind.i64.wrap ((k : Int) + 1) = (k : Int) + 1 := by rw [IntKind.wrap_i64]; omega
  go_enter Try.func25, Try.ntmps25
  go_wp2_with (go_at_call 36; refine (find_is w _ n cap ps key k HC.out.1 HC.out.2.1 (by have := HC.out; omega)).mono ?_; rintro e w3 ⟨rfl, HB⟩; rw [HIS.out])
  go_region_held_law (fun _ => True) (trivial) (first
    | (refine step_append_bs (by rfl) 20 rfl _ _ 27 rfl _ 40 i0 _ 2 w.heap.size Try.underlying27 hi0 hii.1 hii.2.1 hby rfl (by omega) (.slice (some ⟨w3.heap.size, 0, none⟩) 0 0) 0 [] (.inl ⟨_, rfl, Rd.nil _ _ _ _, .inr ⟨_, _, rfl⟩⟩) (some ⟨g, off, none⟩) k cap T1 rfl rfl (HS1.out _ (HB.out.drew.alloc HB.out.size _)) (by have := HB.out.size; simp; omega) (by have := HC.out; omega) ?_; intro v4 w4 HO4 HB4; rw [Nat.zero_add, List.nil_append] at HO4; have HW4 : Hid (Below w.heap.size w w4) := (HB.out.drew.alloc HB.out.size _).trans HB4.out; obtain ⟨a4, cap4, rfl, _⟩ := HO4.out.read)
    | (refine step_append_bs (by rfl) 25 rfl _ _ 27 rfl w4 40 i0 _ 2 w.heap.size Try.underlying27 hi0 hii.1 hii.2.1 hby rfl (by omega) _ _ _ HO4.out (some ⟨g, off + (k + 1) * 2, none⟩) (n - (k + 1)) (cap - (k + 1)) T2 rfl rfl (HS2.out w4 HW4.out) HW4.out.size (by have := HC.out; omega) ?_; intro v6 w6 HO6 HB6; have HW6 : Hid (Below w.heap.size w w6) := HW4.out.trans HB6.out; obtain ⟨a6, cap6, rfl, h6, h7, h8⟩ := HO6.out.read))
  go_wp2
  go_ret
  exact ⟨a6, _, cap6, rfl, ⟨(show Rd w6 40 2 a6 _ _ by rw [← HTT.out]; exact h7).toP, h6, h8⟩, HW6⟩
set_option maxRecDepth 100000 in
set_option maxHeartbeats 1000000 in
theorem rdel_full (w : World) (g off k : Nat) (ps : List Pr) (key : ByteArray) (h : RdP w (some ⟨g, off, none⟩) (k + 1) ps) (ha : AtP ps key k) (hi : isP ps key k = true) (hn : k ≤ 100000) :
    Calls Try.prog 25 #[.slice (some ⟨g, off, none⟩) (k + 1) (k + 1), .string key] w (Rows w (ps.take k ++ ps.drop (k + 1))) := by
  obtain ⟨i0, hi0, hii⟩ := Option.map_eq_some_iff.1 infoP
  simp only [Prod.mk.injEq] at hii
  have hby : i0.bytes ≤ 64 := by rw [hii.2.2]; omega
  have HC : Hid (RdP w (some ⟨g, off, none⟩) (k + 1) ps ∧ AtP ps key k ∧ k + 1 ≤ 100001) := ⟨h, ha, by omega⟩
  have HS1 : Hid (∀ W, Below w.heap.size w W → Rd W 40 2 (some ⟨g, off, none⟩) k ((ps.take k).flatMap pc)) := fun W hW => by
    have := (h.below hW (Nat.le_refl _)).toRd.take (i := k) (by omega)
    rwa [flat_take] at this
  have HS2 : Hid (∀ W, Below w.heap.size w W → Rd W 40 2 (some ⟨g, off, none⟩) 0 ((ps.drop (k + 1)).flatMap pc)) := fun W hW => by
    rw [List.drop_eq_nil_of_le (by rw [h.1]; exact Nat.le_refl _)]; exact Rd.nil W 40 2 _
  have HIS : Hid (isP ps key k = true) := hi
  obtain ⟨T1, hT1⟩ : ∃ T1, (ps.take k).flatMap pc = T1 := ⟨_, rfl⟩
  obtain ⟨T2, hT2⟩ : ∃ T2, (ps.drop (k + 1)).flatMap pc = T2 := ⟨_, rfl⟩
  rw [hT1] at HS1
  rw [hT2] at HS2
  have HTT : Hid (T1 ++ T2 = (ps.take k ++ ps.drop (k + 1)).flatMap pc) := by show _ = _; rw [← hT1, ← hT2]; simp
  generalize ps.take k ++ ps.drop (k + 1) = PS at *
  clear hT1 hT2 h ha hi
  have q3 : (0 : Int) ≤ (k : Int) := by omega
  have q4 : (k : Int) ≤ 100000 := by omega
  have q7 : (k : Int) ≤ (k : Int) + 1 := by omega
  have q8 : (0 : Int) ≤ (k : Int) + 1 := by omega
  have q9 : ((k : Int) + 1).toNat = k + 1 := by omega
  have q13 : IntKind.i64.wrap ((k : Int) + 1) = (k : Int) + 1 := by rw [IntKind.wrap_i64]; omega
  go_enter Try.func25, Try.ntmps25
  go_wp2_with (go_at_call 36; refine (find_is w _ (k + 1) (k + 1) ps key k HC.out.1 HC.out.2.1 (by have := HC.out; omega)).mono ?_; rintro e w3 ⟨rfl, HB⟩; rw [HIS.out])
  go_region_held_law (fun _ => True) (trivial) (first
    | (refine step_append_bs (by rfl) 20 rfl _ _ 27 rfl _ 40 i0 _ 2 w.heap.size Try.underlying27 hi0 hii.1 hii.2.1 hby rfl (by omega) (.slice (some ⟨w3.heap.size, 0, none⟩) 0 0) 0 [] (.inl ⟨_, rfl, Rd.nil _ _ _ _, .inr ⟨_, _, rfl⟩⟩) (some ⟨g, off, none⟩) k (k + 1) T1 rfl rfl (HS1.out _ (HB.out.drew.alloc HB.out.size _)) (by have := HB.out.size; simp; omega) (by have := HC.out; omega) ?_; intro v4 w4 HO4 HB4; rw [Nat.zero_add, List.nil_append] at HO4; have HW4 : Hid (Below w.heap.size w w4) := (HB.out.drew.alloc HB.out.size _).trans HB4.out; obtain ⟨a4, cap4, rfl, _⟩ := HO4.out.read)
    | (refine step_append_bs (by rfl) 25 rfl _ _ 27 rfl w4 40 i0 _ 2 w.heap.size Try.underlying27 hi0 hii.1 hii.2.1 hby rfl (by omega) _ _ _ HO4.out (some ⟨g, off, none⟩) 0 0 T2 rfl rfl (HS2.out w4 HW4.out) HW4.out.size (by have := HC.out; omega) ?_; intro v6 w6 HO6 HB6; have HW6 : Hid (Below w.heap.size w w6) := HW4.out.trans HB6.out; obtain ⟨a6, cap6, rfl, h6, h7, h8⟩ := HO6.out.read))
  go_wp2
  go_ret
  exact ⟨a6, _, cap6, rfl, ⟨(show Rd w6 40 2 a6 _ _ by rw [← HTT.out]; exact h7).toP, h6, h8⟩, HW6⟩
theorem rdel_is (w : World) (a : Option Addr) (n cap : Nat) (ps : List Pr) (key : ByteArray) (h : RdP w a n ps) (hc : Cap a n cap) (hr : Ris ps) (hn : n ≤ 100000) : Calls Try.prog 25 #[.slice a n cap, .string key] w (Rows w (remP ps key)) := by
  obtain ⟨k, ha⟩ := find_at ps key (ris_mono hr key)
  cases hi : isP ps key k with
  | false =>
    rw [rem_no hr key (eqs_no hr ha hi)]
    exact rdel_no w a n cap k ps key h ha hi hn hc
  | true =>
    rw [rem_at hr ha hi]
    obtain ⟨y, hy, _⟩ := eqs_is hr ha hi
    have hkn' : k < n := by rw [← h.1]; exact (List.getElem?_eq_some_iff.1 hy).1
    rcases hc with ⟨hc1, ⟨rfl, rfl⟩ | ⟨g, off, rfl⟩⟩
    · omega
    · by_cases hcj : cap = k + 1
      · subst hcj
        have : n = k + 1 := by omega
        subst this
        exact rdel_full w g off k ps key h ha hi (by omega)
      · exact rdel_some w g off n cap k ps key h hc1 ha hi hkn' hcj hn
end Go.Proofs.Ytnagknlfboadkaa.Oct

/- Layer 7 (tree): the reference's Scan. -/
namespace Go.Proofs.Ytnagknlfboadkaa.Oct
open Go.RowKit

/-- a pair that a scan tells -/
def inS (key til : ByteArray) (x : Pr) : Bool := geS x.1 key && okS til x
theorem filter_take_yes {ps : List Pr} {i : Nat} {x : Pr} {p : Pr → Bool} (hx : ps[i]? = some x) (hp : p x = true) : (ps.take (i + 1)).filter p = (ps.take i).filter p ++ [x] := by
  rw [List.take_add_one, List.filter_append, hx]; simp [hp]
theorem filter_take_no {ps : List Pr} {i : Nat} {x : Pr} {p : Pr → Bool} (hx : ps[i]? = some x) (hp : p x = false) : (ps.take (i + 1)).filter p = (ps.take i).filter p := by
  rw [List.take_add_one, List.filter_append, hx]; simp [hp]

set_option maxRecDepth 100000 in
set_option maxHeartbeats 1000000 in
theorem rscan_is (w : World) (a : Option Addr) (n cap : Nat) (ps : List Pr) (key til : ByteArray) (h : RdP w a n ps) (hn : n ≤ 100000) :
    Calls Try.prog 16 #[.slice a n cap, .string key, .string til] w (Rows w (ps.filter (inS key til))) := by
  obtain ⟨i0, hi0, hii⟩ := Option.map_eq_some_iff.1 infoP
  simp only [Prod.mk.injEq] at hii
  have hby : i0.bytes ≤ 64 := by rw [hii.2.2]; omega
  have HR : Hid (RdP w a n ps ∧ n ≤ 100000) := ⟨h, hn⟩
  clear h hn
  go_enter Try.func16, Try.ntmps16
  go_wp2
  go_loopw [8, 7] (fun u v wr => ∃ (i m : Nat) (av : Option Addr) (cv : Nat), u = .int .i64 (i : Int) ∧ v = .slice av m cv ∧ Hid (i ≤ n ∧ m ≤ i) ∧ Hid (Bs 40 2 w.heap.size wr (.slice av m cv) m (((ps.take i).filter (inS key til)).flatMap pc)) ∧ Hid (Below w.heap.size w wr)) (fun u _ _ => n - (intOf u).toNat)
  case atStart => exact ⟨0, 0, none, 0, rfl, rfl, ⟨Nat.zero_le _, Nat.le_refl _⟩, .inl ⟨none, rfl, Rd.nil _ _ _ _, .inl ⟨rfl, rfl⟩⟩, Below.refl _ _⟩
  case round =>
    obtain ⟨i, m, av, cv, rfl, rfl, HI, HO, HB⟩ := hrel
    by_cases hi : i < n
    · obtain ⟨x, hx⟩ : ∃ x, ps[i]? = some x := ⟨_, List.getElem?_eq_getElem (by rw [HR.out.1.1]; exact hi)⟩
      obtain ⟨g, off, rfl, hg1, hc1⟩ := HR.out.1.2 (by omega)
      have a0 : wr.cell? ⟨g, off + i * 2, none⟩ = some (.string x.1) := (HB.out.cell (p := ⟨g, _, none⟩) hg1.lt).trans (hc1 i x hx).1
      have a1 : wr.cell? ⟨g, off + i * 2 + 1, none⟩ = some (.string x.2) := (HB.out.cell (p := ⟨g, _, none⟩) hg1.lt).trans (hc1 i x hx).2
      have q1 : (i : Int) < (n : Int) := by omega
      have q2 : (n : Int) ≤ 100000 := by have := HR.out.2; omega
      have HL : Hid (i < n) := hi
      have YES : Hid (inS key til x = true → (ps.take (i + 1)).filter (inS key til) = (ps.take i).filter (inS key til) ++ [x]) := fun hp => filter_take_yes hx hp
      have NO : Hid (inS key til x = false → (ps.take (i + 1)).filter (inS key til) = (ps.take i).filter (inS key til)) := fun hp => filter_take_no hx hp
      clear hc1 hx hi hg1
      obtain ⟨x1, x2⟩ := x
      cases hg : Op.bytesLess x1.toList key.toList with
      | true =>
        have hno : inS key til (x1, x2) = false := by simp [inS, geS, hg]
        have HNO : Hid ((ps.take (i + 1)).filter (inS key til) = (ps.take i).filter (inS key til)) := NO.out hno
        clear YES NO hno
        go_wp2
        go_roundw
        case rel => exact ⟨i + 1, m, av, cv, by simp, rfl, ⟨HL.out, by have := HI.out; omega⟩, by rw [HNO.out]; exact HO.out, HB⟩
        case measure => have := HL.out; simp [intOf]; omega
      | false =>
        cases he : til.toList.isEmpty with
        | true =>
          have hyes : inS key til (x1, x2) = true := by simp [inS, geS, hg, okS, he]
          have HYES : Hid ((ps.take (i + 1)).filter (inS key til) = (ps.take i).filter (inS key til) ++ [(x1, x2)]) := YES.out hyes
          have he1 : (til.toList == []) = true := by simpa using he
          clear YES NO hyes
          go_wp2_with (at_builtin; refine wpList_append_bs _ rfl (.tmp 35) (.tmp 40) 27 rfl 40 i0 _ 2 w.heap.size Try.underlying27 hi0 hii.1 hii.2.1 hby rfl (by omega) _ _ _ (HO.out.alloc _) (some ⟨wr.heap.size, 0, none⟩) 1 1 ([(x1, x2)].flatMap pc) rfl rfl (one_rd wr (x1, x2)) (by have := HB.out.size; simp; omega) (by have := HI.out; have := HR.out.2; omega) ?_; intro v5 w5 HO5 HB5; have HW5 : Hid (Below w.heap.size w w5) := (HB.out.alloc HB.out.size _).trans HB5.out; obtain ⟨a5, cap5, rfl, _⟩ := HO5.out.read)
          go_roundw
          case rel => exact ⟨i + 1, m + 1, a5, cap5, by simp, rfl, ⟨HL.out, by have := HI.out; omega⟩, by rw [HYES.out, List.flatMap_append]; exact HO5.out, HW5⟩
          case measure => have := HL.out; simp [intOf]; omega
        | false =>
          have he1 : (til.toList == []) = false := by simpa using he
          cases hl : Op.bytesLess x1.toList til.toList with
          | true =>
            have hyes : inS key til (x1, x2) = true := by simp [inS, geS, hg, okS, hl]
            have HYES : Hid ((ps.take (i + 1)).filter (inS key til) = (ps.take i).filter (inS key til) ++ [(x1, x2)]) := YES.out hyes
            clear YES NO hyes
            go_wp2_with (at_builtin; refine wpList_append_bs _ rfl (.tmp 35) (.tmp 40) 27 rfl 40 i0 _ 2 w.heap.size Try.underlying27 hi0 hii.1 hii.2.1 hby rfl (by omega) _ _ _ (HO.out.alloc _) (some ⟨wr.heap.size, 0, none⟩) 1 1 ([(x1, x2)].flatMap pc) rfl rfl (one_rd wr (x1, x2)) (by have := HB.out.size; simp; omega) (by have := HI.out; have := HR.out.2; omega) ?_; intro v5 w5 HO5 HB5; have HW5 : Hid (Below w.heap.size w w5) := (HB.out.alloc HB.out.size _).trans HB5.out; obtain ⟨a5, cap5, rfl, _⟩ := HO5.out.read)
            go_roundw
            case rel => exact ⟨i + 1, m + 1, a5, cap5, by simp, rfl, ⟨HL.out, by have := HI.out; omega⟩, by rw [HYES.out, List.flatMap_append]; exact HO5.out, HW5⟩
            case measure => have := HL.out; simp [intOf]; omega
          | false =>
            have hno : inS key til (x1, x2) = false := by simp [inS, geS, hg, okS, he, hl]
            have HNO : Hid ((ps.take (i + 1)).filter (inS key til) = (ps.take i).filter (inS key til)) := NO.out hno
            clear YES NO hno
            go_wp2
            go_roundw
            case rel => exact ⟨i + 1, m, av, cv, by simp, rfl, ⟨HL.out, by have := HI.out; omega⟩, by rw [HNO.out]; exact HO.out, HB⟩
            case measure => have := HL.out; simp [intOf]; omega
    · have q1 : ¬ (i : Int) < (n : Int) := by omega
      have HALL : Hid (ps.take i = ps) := List.take_of_length_le (by rw [HR.out.1.1]; omega)
      go_wp2
      go_ret
      obtain ⟨a6, c6, e6, h6, h7, h8⟩ := HO.out.read
      rw [HALL.out] at h7
      exact ⟨a6, m, c6, by rw [e6]; rfl, ⟨h7.toP, h6, h8⟩, HB⟩
end Go.Proofs.Ytnagknlfboadkaa.Oct

/- Layer 7 (tree): a key with a number. -/
namespace Go.Proofs.Ytnagknlfboadkaa.Oct
open Go.RowKit

/-- a key with a number's two letters -/
def num2 (n : Nat) : List UInt8 := [UInt8.ofNat (n / 26 % 26 + 97), UInt8.ofNat (n % 26 + 97)]
def numK (key : ByteArray) (n : Nat) : ByteArray := key ++ ⟨(num2 n).toArray⟩
theorem num_conv (w : World) (n : Nat) : (convert 63 9 (Value.slice (some { block := w.heap.size, off := 0 }) 2 2)).run Try.prog (w.alloc (Obj.cells #[Value.int IntKind.u8 ((n : Int) / 26 % 26 + 97), Value.int IntKind.u8 ((n : Int) % 26 + 97)] 5)) = .ok (.string ⟨(num2 n).toArray⟩) (w.alloc (Obj.cells #[Value.int IntKind.u8 ((n : Int) / 26 % 26 + 97), Value.int IntKind.u8 ((n : Int) % 26 + 97)] 5)) := by
  refine run_convert_bytes_back _ 63 9 5 ⟨w.heap.size, 0, none⟩ 2 (num2 n) Try.underlying63 Try.underlying5 Try.underlying9 fun j hj => ?_
  have e1 : ((UInt8.ofNat (n / 26 % 26 + 97)).toNat : Int) = (n : Int) / 26 % 26 + 97 := by
    rw [UInt8.toNat_ofNat']; omega
  have e2 : ((UInt8.ofNat (n % 26 + 97)).toNat : Int) = (n : Int) % 26 + 97 := by
    rw [UInt8.toNat_ofNat']; omega
  match j, hj with
  | 0, _ => go_simp; simp [num2]; omega
  | 1, _ => go_simp; simp [num2]; omega
theorem number_is (w : World) (key : ByteArray) (n : Nat) (hn : n < 60) (hk : key.size ≤ 100000) : Calls Try.prog 26 #[.string key, .int .i64 (n : Int)] w fun e w' => e = .returned (.string (numK key n)) ∧ Hid (Below w.heap.size w w') := by
  have q0 : (n : Int) < 60 := by omega
  have q9 : ¬ 9223372036854775807 < key.size + (num2 n).length := by simp [num2]; omega
  have HQ : Hid (∀ n : Nat, (convert 63 9 (Value.slice (some { block := w.heap.size, off := 0 }) 2 2)).run Try.prog (w.alloc (Obj.cells #[Value.int IntKind.u8 ((n : Int) / 26 % 26 + 97), Value.int IntKind.u8 ((n : Int) % 26 + 97)] 5)) = .ok (.string ⟨(num2 n).toArray⟩) (w.alloc (Obj.cells #[Value.int IntKind.u8 ((n : Int) / 26 % 26 + 97), Value.int IntKind.u8 ((n : Int) % 26 + 97)] 5))) := num_conv w
  go_enter Try.func26, Try.ntmps26
  go_wp2
  rw [HQ.out n]
  go_wp2
  go_ret
  exact ⟨rfl, (Below.refl _ w).alloc (Nat.le_refl _) _⟩
end Go.Proofs.Ytnagknlfboadkaa.Oct

/- Layer 7 (tree): 'told' of a map of any keys. -/
namespace Go.Proofs.Ytnagknlfboadkaa.Oct
open Go.RowKit Go.Shelf
attribute [local go_sem] Oper.semAt_some

theorem kept_below {w A : World} (h : Below w.heap.size w A) : Kept w A := fun b _ _ hr => h.block b hr.lt
/-- between two rounds of 'told' -/
structure TInvT (w : World) (p : Option Addr) (key til : ByteArray) (ys : List Pr) (s : Nat) (A : World) : Prop where
  be : Below w.heap.size w A
  out : ∃ v, A.heap[w.heap.size]? = some (.cells #[v] 27) ∧ A.ownsRow (w.heap.size + 4) 40 2 v s ((ys.take s).flatMap pc)
  fr : A.heap[w.heap.size + 1]? = some (.cells #[.string key] 9)
  un : A.heap[w.heap.size + 2]? = some (.cells #[.string til] 9)
  ro : A.heap[w.heap.size + 3]? = some (.cells #[.pointer p] 46)
  le : w.heap.size + 4 ≤ A.heap.size
theorem TInvT.step {w A w' : World} {p : Option Addr} {s : Nat} {key til : ByteArray} {ys : List Pr} {x : Pr} {v v' : Value} (h : TInvT w p key til ys s A) (hv : A.heap[w.heap.size]? = some (.cells #[v] 27)) (ho : A.ownsRow (w.heap.size + 4) 40 2 v s ((ys.take s).flatMap pc)) (hx : ys[s]? = some x)
    (hg : (A.alloc (.cells #[.string x.1, .string x.2] 40)).grownBy w' v.ownBlock) (ho' : w'.ownsRow (w.heap.size + 4) 40 2 v' (s + 1) ((ys.take s).flatMap pc ++ pc x)) :
    TInvT w p key til ys (s + 1) (w'.setCell ⟨w.heap.size, 0, none⟩ v') ∧ Held (w.heap.size + 4) A (w'.setCell ⟨w.heap.size, 0, none⟩ v') := by
  have hrow : ∀ b, v.ownBlock = some b → w.heap.size + 4 ≤ b ∧ RowAt A b := by
    intro b hb
    rcases ho.2 with ⟨rfl, _⟩ | ⟨g, cap, cur, rfl, h3, h4, _⟩
    · cases hb
    · have : g = b := by simpa [Value.ownBlock] using hb
      subst this
      exact ⟨h3, cur, (0, 0), h4⟩
  have old : ∀ b, b < A.heap.size → some b ≠ v.ownBlock → w'.heap[b]? = A.heap[b]? := fun b hb hne =>
    (hg.block b (by simp; omega) hne).trans (Below.heap_alloc A _ b hb)
  have low : ∀ b, b < w.heap.size + 4 → w'.heap[b]? = A.heap[b]? := fun b hb => old b (by have := h.le; omega) (fun e => by have := (hrow b e.symm).1; omega)
  have low' : ∀ b, b < w.heap.size + 4 → b ≠ w.heap.size → (w'.setCell ⟨w.heap.size, 0, none⟩ v').heap[b]? = A.heap[b]? := fun b hb hne => by
    rw [heap_setCell_other w' ⟨w.heap.size, 0, none⟩ b v' hne]; exact low b hb
  have hsz : A.heap.size ≤ w'.heap.size := Nat.le_trans (by simp) hg.size
  have hlt := (List.getElem?_eq_some_iff.1 hx).1
  refine ⟨⟨?_, ⟨v', ?_, ?_⟩, ?_, ?_, ?_, ?_⟩, ?_, ?_⟩
  · refine ⟨hg.os.trans h.be.os, hg.tape.trans h.be.tape, hg.output.trans h.be.output, by simp; have := h.be.size; omega, fun b hb => ?_⟩
    rw [low' b (by omega) (by omega)]; exact h.be.block b hb
  · have e := low w.heap.size (by omega)
    rw [hv] at e
    have := heap_setCell_same w' w.heap.size 0 _ 27 v' e
    simpa using this
  · have e : ys.take (s + 1) = ys.take s ++ [x] := by rw [List.take_add_one, hx]; rfl
    rw [e, List.flatMap_append]
    exact own_set (by simpa using ho') (by omega)
  · rw [low' _ (by omega) (by omega)]; exact h.fr
  · rw [low' _ (by omega) (by omega)]; exact h.un
  · rw [low' _ (by omega) (by omega)]; exact h.ro
  · simp; have := h.le; omega
  · simp; exact hsz
  · intro b h1 h2 h3
    rw [heap_setCell_other w' ⟨w.heap.size, 0, none⟩ b v' (by show b ≠ w.heap.size; omega)]
    exact old b h1 (fun e => h3 (hrow b e.symm).2)

set_option maxRecDepth 100000 in
set_option maxHeartbeats 2000000 in
theorem told_all (w : World) (m : Nat) (L : List Pr) (key til : ByteArray) (htr : Tr w m L) (hn : L.length ≤ 1000000) :
    Calls Try.prog 13 #[.pointer (some ⟨m, 0, none⟩), .string key, .string til] w fun e w' => ∃ v, e = .returned v ∧ Hid (w'.ownsRow w.heap.size 40 2 v (scanT key til L).length ((scanT key til L).flatMap pc)) ∧ Hid (Below w.heap.size w w') := by
  obtain ⟨p, hmp, hroot⟩ := htr.root
  have HN : Hid (Root w p L ∧ L.length ≤ 1000000) := ⟨hroot, hn⟩
  have HM : Hid (Mp w m (.pointer p) L.length) := hmp
  clear hmp hroot hn htr
  obtain ⟨ys, hys⟩ : ∃ ys, scanT key til L = ys := ⟨_, rfl⟩
  rw [hys]
  have HYS : Hid (scanT key til L = ys) := hys
  have HLY : Hid (ys.length ≤ 1000000) := by
    show _ ≤ _
    have h1 := takeWhile_le (okS til) (ge key L)
    have h2 : (ge key L).length ≤ L.length := List.length_filter_le _ _
    have h3 := HN.out.2
    rw [← hys, scanT]
    omega
  clear hys
  refine (callsIn_wide (n := 3)).1 ?_
  refine callsIn_of_wp_marks Try.func13 rfl trivial ?_ rfl
  simp only [Try.ntmps13, List.size_toArray, List.length_cons, List.length_nil, Nat.reduceAdd, Nat.reduceSub, Array.replicate_succ, Array.replicate_zero, List.push_toArray, List.append_toArray, List.nil_append, List.cons_append]
  have HB0 : Hid (Below w.heap.size w (w.alloc (.cells #[.slice none 0 0] 27))) := (Below.refl _ w).alloc (Nat.le_refl _) _
  have nn := not_nil28
  gi_wp2_with (refine ⟨trivial, ?_⟩; gi_at_call 17; refine (callsIn_wide.2 (scan_yes _ m L.length _ key til (HM.out.keep HB0.out (Nat.le_refl _)))).mono ?_; rintro e w1 ⟨rfl, HW1⟩)
  have hw1 := HW1.out
  have HS1 : Hid (w1.heap.size = w.heap.size + 4) := by show _ = _; rw [hw1]; simp
  have HI0 : Hid (TInvT w p key til ys 0 w1) := by
    have b0 : w1.heap[w.heap.size]? = some (.cells #[.slice none 0 0] 27) := by
      rw [hw1, Below.heap_alloc _ _ _ (by simp; omega), Below.heap_alloc _ _ _ (by simp; omega), Below.heap_alloc _ _ _ (by simp)]
      exact World.alloc_heap_new w _
    have b1 : w1.heap[w.heap.size + 1]? = some (.cells #[.string key] 9) := by
      have e := World.alloc_heap_new (w.alloc (.cells #[.slice none 0 0] 27)) (.cells #[.string key] 9)
      rw [World.size_alloc] at e
      rw [hw1, Below.heap_alloc _ _ _ (by simp), Below.heap_alloc _ _ _ (by simp)]
      exact e
    have b2 : w1.heap[w.heap.size + 2]? = some (.cells #[.string til] 9) := by
      have e := World.alloc_heap_new ((w.alloc (.cells #[.slice none 0 0] 27)).alloc (.cells #[.string key] 9)) (.cells #[.string til] 9)
      rw [World.size_alloc, World.size_alloc] at e
      rw [hw1, Below.heap_alloc _ _ _ (by simp)]
      exact e
    have b3 : w1.heap[w.heap.size + 3]? = some (.cells #[.pointer p] 46) := by
      have e := World.alloc_heap_new (((w.alloc (.cells #[.slice none 0 0] 27)).alloc (.cells #[.string key] 9)).alloc (.cells #[.string til] 9)) (.cells #[.pointer p] 46)
      rw [World.size_alloc, World.size_alloc, World.size_alloc] at e
      rw [hw1]
      exact e
    refine ⟨?_, ⟨_, b0, World.ownsRow_nil _ _ _ _⟩, b1, b2, b3, Nat.le_of_eq HS1.out.symm⟩
    rw [hw1]
    exact (((HB0.out.alloc (by simp) _).alloc (by simp; omega) _).alloc (by simp; omega) _)
  clear hw1 HW1 HB0 nn
  obtain ⟨i0, hi0, hii⟩ := Option.map_eq_some_iff.1 info40
  simp only [Prod.mk.injEq] at hii
  refine rangeLeave (gf := 28) (lb := #[.pointer (some ⟨w.heap.size + 1 + 2, 0, none⟩), .pointer (some ⟨w.heap.size + 1, 0, none⟩), .pointer (some ⟨w.heap.size + 1 + 1, 0, none⟩)]) rfl (enters_of Try.func28 (by kernel_rfl) rfl) (fun _ x => encQ x) (fun _ _ => rfl) ys
    (TInvT w p key til ys) (fun _ _ => False) ?hI (fun _ _ _ h _ => h) HI0.out
    (fun _ x => { tmps := #[.pointer (some ⟨m, 0, none⟩), .string key, .string til, undef, undef, undef, .slice none 0 0, .pointer (some ⟨w.heap.size, 0, none⟩), .func (.func 28) #[] #[.pointer (some ⟨w.heap.size + 1 + 2, 0, none⟩), .pointer (some ⟨w.heap.size + 1, 0, none⟩), .pointer (some ⟨w.heap.size + 1 + 1, 0, none⟩)], .string x.1, .string x.2, .pointer (some ⟨m, 0, none⟩), .string key, .string til, .func (.func 28) #[] #[.pointer (some ⟨w.heap.size + 1 + 2, 0, none⟩), .pointer (some ⟨w.heap.size + 1, 0, none⟩), .pointer (some ⟨w.heap.size + 1 + 1, 0, none⟩)], .func (.func 28) #[] #[.pointer (some ⟨w.heap.size + 1 + 2, 0, none⟩), .pointer (some ⟨w.heap.size + 1, 0, none⟩), .pointer (some ⟨w.heap.size + 1 + 1, 0, none⟩)], .bool false, .func (.func 28) #[] #[.pointer (some ⟨w.heap.size + 1 + 2, 0, none⟩), .pointer (some ⟨w.heap.size + 1, 0, none⟩), .pointer (some ⟨w.heap.size + 1 + 1, 0, none⟩)], .string x.1, .string x.2, undef, undef, undef, undef, undef, undef, undef], defers := [] }) ?assign ?body ?iter ?done ?stop
  case hI =>
    rintro t A B h hb
    rw [HS1.out] at hb
    obtain ⟨v, h1, h2⟩ := h.out
    exact ⟨h.be.trans (hb.below.mono (by omega)), ⟨v, (hb.below.block _ (by omega)).trans h1, own_rows h2 hb⟩, (hb.below.block _ (by omega)).trans h.fr, (hb.below.block _ (by omega)).trans h.un, (hb.below.block _ (by omega)).trans h.ro, Nat.le_trans h.le hb.below.size⟩
  case assign =>
    intro t x A K hK
    dsimp only [encQ]
    gi_wp2
    exact hK
  case body =>
    rintro t x A h hx hlt
    obtain ⟨v, h1, h2⟩ := h.out
    have HI : Hid (TInvT w p key til ys t A) := h
    have HX : Hid (ys[t]? = some x) := hx
    have HV : Hid (A.heap[w.heap.size]? = some (.cells #[v] 27)) := h1
    have HO : Hid (A.ownsRow (w.heap.size + 4) 40 2 v t ((ys.take t).flatMap pc)) := h2
    have cv := cell_one h1
    have HL : Hid (t < ys.length) := (List.getElem?_eq_some_iff.1 hx).1
    have hlw : w.heap.size < A.heap.size := by have := h.le; omega
    have HC : Hid (∀ j u, (pc x)[j]? = some u → (A.alloc (.cells #[.string x.1, .string x.2] 40)).cell? ((⟨A.heap.size, 0, none⟩ : Addr).add j) = some u) := by
      intro j u hu
      rw [Addr.add_lit, Nat.zero_add]
      exact (Blk.new A #[.string x.1, .string x.2] 40).cell hu
    have HOA : Hid ((A.alloc (.cells #[.string x.1, .string x.2] 40)).ownsRow (w.heap.size + 4) 40 2 v t ((ys.take t).flatMap pc)) := own_below h2 ((Below.refl A.heap.size A).alloc (Nat.le_refl _) _) (Nat.le_refl _)
    clear h hx h1 h2 hlt
    gi_wp2_with (
      with_reducible change wpListIn _ _ _ _ _ ({ dst := some 25, op := _, type := _, pos := _, after := _, guard := _ } :: _) _ _
      refine wpListIn_append_own (A.alloc (.cells #[.string x.1, .string x.2] 40)) rfl (.tmp 20) (.tmp 24) 27 rfl (w.heap.size + 4) 40 i0 _ 2 32 Try.underlying27 hi0 hii.1 hii.2.1 hii.2.2 rfl (by omega) v t _ rfl HOA.out ⟨A.heap.size, 0, none⟩ 1 1 (pc x) rfl rfl HC.out (by intro u hu; simp only [pc, List.mem_cons, List.not_mem_nil, or_false] at hu; rcases hu with rfl | rfl <;> rfl) (by have := HL.out; have := HLY.out; unfold maxLen; omega) (by have := HL.out; have := HLY.out; omega) (by have := HI.out.le; simp; omega) ?_
      intro v' w' ho' hg' hn'
      obtain ⟨g', cap', rfl⟩ := own_shape ho'
      have HO' : Hid (w'.ownsRow (w.heap.size + 4) 40 2 (.slice (some ⟨g', 0, none⟩) (t + 1) cap') (t + 1) ((ys.take t).flatMap pc ++ pc x)) := ho'
      have HG' : Hid ((A.alloc (.cells #[.string x.1, .string x.2] 40)).grownBy w' v.ownBlock) := hg'
      have hv' := told_box HV.out HO.out hg' (by omega)
      have cw := cell_one hv'
      have fw : w'.frozen? ⟨w.heap.size, 0, none⟩ = false := frozen_of_row w' w.heap.size 0 _ 27 hv'
      clear ho' hg' hn' hv')
    have hE := TInvT.step HI.out HV.out HO.out HX.out HG'.out HO'.out
    exact ⟨hE.1, by rw [HS1.out]; exact hE.2⟩
  case iter =>
    intro J' Jx' A hS hB hJ'b hJx'b hJ'I hJ'X hY' h0'
    have := scan2_all 2 (w1.heap.size + 1) (w.heap.size + 1 + 2) (w.heap.size + 1) (w.heap.size + 1 + 1) p L key til w HN.out.1 (w1.heap.size + 2) J' Jx' hJ'b hJx'b ?_ ?_ ?_ A hS h0'
    · rw [HYS.out] at this; exact this
    · intro A hA
      obtain ⟨⟨c, hc⟩, _⟩ := hJ'X A hA
      exact hc.elim
    · intro t A hA
      obtain ⟨hI, hsz⟩ := hJ'I t A hA
      exact ⟨cell_one hI.ro, cell_one hI.fr, cell_one hI.un, kept_below hI.be, hsz⟩
    · intro t x A hj hx
      rw [HYS.out] at hx
      exact YieldAt.deep 0 (hY' t x A hj hx)
  case done =>
    rintro A h hK
    obtain ⟨v, h1, h2⟩ := h.out
    have HI : Hid (TInvT w p key til ys ys.length A) := h
    have HO : Hid (A.ownsRow (w.heap.size + 4) 40 2 v ys.length ((ys.take ys.length).flatMap pc)) := h2
    have cv := cell_one h1
    have HK : Hid (A.heap[w1.heap.size]? = some (.deferred (some []))) := hK
    clear h h1 h2 hK
    gi_wp2
    refine ⟨by simp, .inl ⟨_, _, rfl, run_takeDeferred HK.out, ?_⟩⟩
    refine ⟨_, results_tmp rfl _ _ _, v, rfl, ?_, HI.out.be.trans (below_putObj _ A _ _ (by have := HS1.out; omega))⟩
    have e := HO.out
    rw [List.take_length] at e
    exact own_mono (own_rows e (belowR_putObj (D := w.heap.size) _ (by have := HS1.out; omega) HK.out def_row)) (by omega)
  case stop => rintro c A h; exact h.elim
end Go.Proofs.Ytnagknlfboadkaa.Oct

/- Layer 7 (tree): a call of both, the map and the list: Put and Delete. -/
namespace Go.Proofs.Ytnagknlfboadkaa.Oct
open Go.RowKit

theorem scanT_is {L : List Pr} (h : Ris L) (key til : ByteArray) : scanT key til L = L.filter (inS key til) := by
  have e1 : ∀ {M : List Pr}, Ris M → M.takeWhile (okS til) = M.filter (okS til) := by
    intro M
    induction M with
    | nil => intro _; rfl
    | cons x M ih =>
      intro hM
      have hM2 := List.pairwise_cons.1 hM
      cases ho : okS til x with
      | true => rw [List.takeWhile_cons, if_pos ho, List.filter_cons, if_pos ho, ih hM2.2]
      | false =>
        rw [List.takeWhile_cons, if_neg (by rw [ho]; simp), List.filter_cons, if_neg (by rw [ho]; simp)]
        symm
        refine List.filter_eq_nil_iff.2 fun y hy => ?_
        have hxy := hM2.1 y hy
        unfold okS at ho ⊢
        rw [Bool.or_eq_false_iff] at ho
        rw [ho.1, geS_eq]
        rw [geS_eq] at ho
        have h2 : Lt x.1 til = false := by simpa using ho.2
        have h3 : Lt y.1 til = false := by
          cases h4 : Lt y.1 til with
          | false => rfl
          | true => rw [lt_trans hxy h4] at h2; cases h2
        rw [h3]; simp
  unfold scanT
  have hgL : Ris (ge key L) := List.Pairwise.sublist List.filter_sublist h
  rw [e1 hgL]
  unfold ge inS
  rw [List.filter_filter]
  congr 1; funext x; exact Bool.and_comm _ _

/-- behind a call of both -/
def PlayP (w : World) (m : Nat) (L : List Pr) (e : Ending) (w' : World) : Prop := ∃ (a' : Option Addr) (n' cap' : Nat) (L' : List Pr), e = .returned (.tuple #[.slice a' n' cap', .bool true]) ∧ Hid (Tr w' m L' ∧ RdP w' a' n' L' ∧ Cap a' n' cap' ∧ L'.length ≤ L.length + 60) ∧ Hid (w.grownBy w' (some m))
theorem Tr.mp {w : World} {m : Nat} {L : List Pr} (h : Tr w m L) : ∃ p, Mp w m (.pointer p) L.length := by
  obtain ⟨p, h1, _⟩ := h.root
  exact ⟨p, h1⟩
theorem Tr.oth {w : World} {m : Nat} {L : List Pr} (h : Tr w m L) : Oth w m := by
  obtain ⟨p, h1⟩ := h.mp
  exact h1.oth
theorem Tr.lt {w : World} {m : Nat} {L : List Pr} (h : Tr w m L) : m < w.heap.size := by
  obtain ⟨p, h1⟩ := h.mp
  exact Blk.lt (show Blk w m 48 _ from h1)
theorem ins_most {L : List Pr} (h : Ris L) (x : Pr) : (insP L x).length ≤ L.length + 1 := by
  rw [ins_len h]; split <;> omega
theorem rem_most {L : List Pr} (h : Ris L) (k : ByteArray) : (remP L k).length ≤ L.length := by
  rw [rem_len h]; split <;> omega

set_option maxRecDepth 100000 in
set_option maxHeartbeats 1000000 in
theorem play_put (w : World) (m : Nat) (a : Option Addr) (n cap : Nat) (L : List Pr) (k v : ByteArray) (N : Int) (hT : Tr w m L) (hR : RdP w a n L) (hC : Cap a n cap) (hn : L.length ≤ 90000) :
    Calls Try.prog 14 #[.pointer (some ⟨m, 0, none⟩), .slice a n cap, .agg #[.int .i64 0, .string k, .string v, .int .i64 N]] w (PlayP w m L) := by
  have hml := hT.lt
  have hnL : n = L.length := hR.1.symm
  have HQ : Hid (Tr w m L ∧ RdP w a n L ∧ Cap a n cap ∧ L.length ≤ 90000 ∧ n = L.length) := ⟨hT, hR, hC, hn, hnL⟩
  have HB1 : Hid (Below w.heap.size w (w.alloc (.cells #[.int .i64 0, .string k, .string v, .int .i64 N] 29))) := (Below.refl _ w).alloc (Nat.le_refl _) _
  have hbx := Blk.new w #[.int .i64 0, .string k, .string v, .int .i64 N] 29
  have HK : Hid (∀ W, (w.alloc (.cells #[.int .i64 0, .string k, .string v, .int .i64 N] 29)).grownBy W (some m) → W.cell? ⟨w.heap.size, 0, none⟩ = some (.int .i64 0) ∧ W.cell? ⟨w.heap.size, 1, none⟩ = some (.string k) ∧ W.cell? ⟨w.heap.size, 2, none⟩ = some (.string v)) := fun W hW =>
    ⟨hW.cell (hbx.cell (i := 0) rfl) (by simp; omega), hW.cell (hbx.cell (i := 1) rfl) (by simp; omega), hW.cell (hbx.cell (i := 2) rfl) (by simp; omega)⟩
  have d1 := hbx.cell (i := 1) rfl
  clear hT hR hC hn hnL hbx
  go_enter Try.func14, Try.ntmps14
  go_wp2_with fail
  obtain ⟨w1, hw1⟩ : ∃ w1, w.alloc (.cells #[.int .i64 0, .string k, .string v, .int .i64 N] 29) = w1 := ⟨_, rfl⟩
  rw [hw1] at HB1 HK d1 ⊢
  refine (rget_is w1 a n cap L k (HQ.out.2.1.below HB1.out (Nat.le_refl _)) HQ.out.1.ris (by have := HQ.out; omega)).mono ?_
  rintro e w2 ⟨rfl, HB2⟩
  have HG2 : Hid (w1.grownBy w2 (some m)) := below_grown HB2.out _
  have HW2 : Hid (Below w.heap.size w w2) := HB1.out.trans (HB2.out.mono HB1.out.size)
  obtain ⟨k0, k1, k2⟩ := HK.out w2 HG2.out
  have HG2d : Hid (w1.grownBy w2.drew (some m)) := below_grown HB2.out.drew _
  have HS1 : Hid (m < w1.heap.size) := by show _ < _; have := HB1.out.size; omega
  have H24 : Hid (Calls Try.prog 24 #[.slice a n cap, .string k, .string v] w2.drew (Rows w2.drew (insP L (k, v)))) := rput_is w2.drew a n cap L (k, v) (HQ.out.2.1.below HW2.out.drew (Nat.le_refl _)) HQ.out.2.2.1 HQ.out.1.ris (by have := HQ.out; omega)
  generalize hE : (!(eqs k L).isEmpty) = E
  generalize gv (eqs k L) = V
  have HE : Hid ((!(eqs k L).isEmpty) = E) := hE
  clear d1 hE hw1
  go_wp2_with fail
  go_region_held_law (fun W => W.cell? ⟨w.heap.size, 1, none⟩ = some (.string k) ∧ W.cell? ⟨w.heap.size, 2, none⟩ = some (.string v))
    (first | with_reducible exact (HK.out _ HG2d.out).2 | with_reducible exact (HK.out _ HG3.out).2 | with_reducible exact (HK.out _ HG4.out).2)
    (first
    | (go_at_call 24; (with_reducible refine Calls.mono H24.out ?_); rintro e w3 ⟨a3, n3, cap3, rfl, HR3, hB3⟩; have HW3 : Hid (Below w.heap.size w w3) := HW2.out.drew.trans (hB3.out.mono HW2.out.size); have HG3 : Hid (w1.grownBy w3 (some m)) := grown_tr HG2d.out (below_grown hB3.out _); have H19 : Hid (Calls Try.prog 19 #[.pointer (some ⟨m, 0, none⟩), .string k, .string v] w3 fun e w' => e = .returned (.bool E) ∧ Hid (Tr w' m (insP L (k, v))) ∧ Hid (w3.grownBy w' (some m))) := (by show Calls _ _ _ _ _; rw [← HE.out]; exact tput w3 m L (k, v) (HQ.out.1.below HW3.out) (by have := HQ.out; omega)); clear hB3)
    | (go_at_call 19; (with_reducible refine Calls.mono H19.out ?_); rintro e w4 ⟨rfl, HT4, HG34⟩; have HG4 : Hid (w1.grownBy w4 (some m)) := grown_tr HG3.out HG34.out))
  go_wp2
  go_ret2
  refine ⟨a3, n3, cap3, insP L (k, v), by simp, ⟨HT4.out, HR3.out.1.oth HG34.out (HQ.out.1.below HW3.out).oth, HR3.out.2, by have := ins_most HQ.out.1.ris (k, v); omega⟩, grown_tr (below_grown HW3.out _) HG34.out⟩
end Go.Proofs.Ytnagknlfboadkaa.Oct

/- Layer 7 (tree): a call of both, the map and the list: many Puts. -/
namespace Go.Proofs.Ytnagknlfboadkaa.Oct
open Go.RowKit

set_option maxRecDepth 100000 in
set_option maxHeartbeats 1000000 in
theorem play_puts (w : World) (m : Nat) (a : Option Addr) (n cap : Nat) (L : List Pr) (k v : ByteArray) (N : Int) (hT : Tr w m L) (hR : RdP w a n L) (hC : Cap a n cap) (hk : k.size ≤ 100000) (hn : L.length ≤ 90000) :
    Calls Try.prog 14 #[.pointer (some ⟨m, 0, none⟩), .slice a n cap, .agg #[.int .i64 5, .string k, .string v, .int .i64 N]] w (PlayP w m L) := by
  have hml := hT.lt
  have hnL : n = L.length := hR.1.symm
  have HQ : Hid (Tr w m L ∧ RdP w a n L ∧ Cap a n cap ∧ L.length ≤ 90000 ∧ n = L.length) := ⟨hT, hR, hC, hn, hnL⟩
  have HB1 : Hid (Below w.heap.size w (w.alloc (.cells #[.int .i64 5, .string k, .string v, .int .i64 N] 29))) := (Below.refl _ w).alloc (Nat.le_refl _) _
  have hbx := Blk.new w #[.int .i64 5, .string k, .string v, .int .i64 N] 29
  have HK : Hid (∀ W, (w.alloc (.cells #[.int .i64 5, .string k, .string v, .int .i64 N] 29)).grownBy W (some m) → W.cell? ⟨w.heap.size, 0, none⟩ = some (.int .i64 5) ∧ W.cell? ⟨w.heap.size, 1, none⟩ = some (.string k) ∧ W.cell? ⟨w.heap.size, 2, none⟩ = some (.string v) ∧ W.cell? ⟨w.heap.size, 3, none⟩ = some (.int .i64 N)) := fun W hW =>
    ⟨hW.cell (hbx.cell (i := 0) rfl) (by simp; omega), hW.cell (hbx.cell (i := 1) rfl) (by simp; omega), hW.cell (hbx.cell (i := 2) rfl) (by simp; omega), hW.cell (hbx.cell (i := 3) rfl) (by simp; omega)⟩
  have d1 := hbx.cell (i := 1) rfl
  clear hT hR hC hn hnL hbx
  go_enter Try.func14, Try.ntmps14
  go_wp2_with fail
  obtain ⟨w1, hw1⟩ : ∃ w1, w.alloc (.cells #[.int .i64 5, .string k, .string v, .int .i64 N] 29) = w1 := ⟨_, rfl⟩
  rw [hw1] at HB1 HK d1 ⊢
  refine (rget_is w1 a n cap L k (HQ.out.2.1.below HB1.out (Nat.le_refl _)) HQ.out.1.ris (by have := HQ.out; omega)).mono ?_
  rintro e w2 ⟨rfl, HB2⟩
  have HG2 : Hid (w1.grownBy w2 (some m)) := below_grown HB2.out _
  have HW2 : Hid (Below w.heap.size w w2) := HB1.out.trans (HB2.out.mono HB1.out.size)
  obtain ⟨k0, k1, k2, k3⟩ := HK.out w2 HG2.out
  have HKS : Hid (k.size ≤ 100000) := hk
  generalize (!(eqs k L).isEmpty) = E0
  generalize gv (eqs k L) = V0
  clear d1 hw1 hk
  go_wp2_with fail
  clear k0 k1 k2 k3
  go_loopw [10, 1] (fun u l wr => ∃ (i : Nat) (a' : Option Addr) (n' c' : Nat) (L' : List Pr), u = .int .i64 (i : Int) ∧ l = .slice a' n' c' ∧ Hid (i ≤ 60 ∧ L'.length ≤ L.length + i) ∧ Hid (Tr wr m L' ∧ RdP wr a' n' L' ∧ Cap a' n' c') ∧ Hid (w1.grownBy wr (some m)) ∧ Hid (w.grownBy wr (some m))) (fun u _ _ => 61 - (intOf u).toNat)
  case atStart => exact ⟨0, a, n, cap, L, rfl, rfl, ⟨by omega, by omega⟩, ⟨HQ.out.1.below HW2.out, HQ.out.2.1.below HW2.out (Nat.le_refl _), HQ.out.2.2.1⟩, HG2.out, below_grown HW2.out _⟩
  case round =>
    obtain ⟨i, a', n', c', L', rfl, rfl, HI, HT, HG, HGW⟩ := hrel
    obtain ⟨k0, k1, k2, k3⟩ := HK.out wr HG.out
    by_cases hi : (i : Int) < N
    · by_cases h60 : i < 60
      · have q0 : (i : Int) < 60 := by omega
        have q1 : (0 : Int) ≤ (i : Int) := by omega
        have HL60 : Hid (i < 60) := h60
        have H26 : Hid (Calls Try.prog 26 #[.string k, .int .i64 ((i : Int) * 7 % 60)] wr fun e w' => e = .returned (.string (numK k (i * 7 % 60))) ∧ Hid (Below wr.heap.size wr w')) := by
          show Calls _ _ _ _ _
          rw [show (i : Int) * 7 % 60 = ((i * 7 % 60 : Nat) : Int) by omega]
          exact number_is wr k (i * 7 % 60) (Nat.mod_lt _ (by omega)) HKS.out
        generalize numK k (i * 7 % 60) = kk at *
        have HRS : Hid (Ris L' ∧ n' = L'.length ∧ L'.length ≤ 95000) := ⟨HT.out.1.ris, HT.out.2.1.1.symm, by have := HI.out; have := HQ.out; omega⟩
        have H23 : Hid (∀ W, Below wr.heap.size wr W → Calls Try.prog 23 #[.slice a' n' c', .string kk] W fun e w' => e = .returned (.tuple #[.string (gv (eqs kk L')), .bool (!(eqs kk L').isEmpty)]) ∧ Hid (Below W.heap.size W w')) := fun W hW => rget_is W a' n' c' L' kk (HT.out.2.1.below hW (Nat.le_refl _)) HRS.out.1 (by have := HRS.out; omega)
        have H19 : Hid (∀ W, Below wr.heap.size wr W → Calls Try.prog 19 #[.pointer (some ⟨m, 0, none⟩), .string kk, .string v] W fun e w' => e = .returned (.bool (!(eqs kk L').isEmpty)) ∧ Hid (Tr w' m (insP L' (kk, v))) ∧ Hid (W.grownBy w' (some m))) := fun W hW => tput W m L' (kk, v) (HT.out.1.below hW) (by have := HRS.out; omega)
        generalize (!(eqs kk L').isEmpty) = E1 at *
        generalize gv (eqs kk L') = V1 at *
        go_wp2_with (first
          | (go_at_call 26; (with_reducible refine Calls.mono H26.out ?_); rintro e w3 ⟨rfl, HB3⟩)
          | (go_at_call 23; (with_reducible refine Calls.mono (H23.out w3 HB3.out) ?_); rintro e w4 ⟨rfl, hB4⟩; have HB4 : Hid (Below wr.heap.size wr w4) := HB3.out.trans (hB4.out.mono HB3.out.size); have HG4 : Hid (w1.grownBy w4 (some m)) := grown_tr HG.out (below_grown HB4.out _); obtain ⟨l0, l1, l2, l3⟩ := HK.out w4 HG4.out; clear hB4)
          | (go_at_call 19; (with_reducible refine Calls.mono (H19.out w4 HB4.out) ?_); rintro e w5 ⟨rfl, HT5, HG45⟩; have HG5 : Hid (w1.grownBy w5 (some m)) := grown_tr HG4.out HG45.out; obtain ⟨m0, m1, m2, m3⟩ := HK.out w5 HG5.out; have H24 : Hid (Calls Try.prog 24 #[.slice a' n' c', .string kk, .string v] w5 (Rows w5 (insP L' (kk, v)))) := rput_is w5 a' n' c' L' (kk, v) ((HT.out.2.1.below HB4.out (Nat.le_refl _)).oth HG45.out (HT.out.1.below HB4.out).oth) HT.out.2.2 HRS.out.1 (by have := HRS.out; omega))
          | (go_at_call 24; (with_reducible refine Calls.mono H24.out ?_); rintro e w6 ⟨a6, n6, c6, rfl, HR6, HB6⟩))
        go_roundw
        case rel => exact ⟨i + 1, a6, n6, c6, insP L' (kk, v), by simp, rfl, ⟨by have := HL60.out; omega, by have := ins_most HRS.out.1 (kk, v); have := HI.out; omega⟩, ⟨HT5.out.below HB6.out, HR6.out⟩, grown_tr HG5.out (below_grown HB6.out _), grown_tr (grown_tr (grown_tr HGW.out (below_grown HB4.out _)) HG45.out) (below_grown HB6.out _)⟩
        case measure => have := HL60.out; simp [intOf]; omega
      · have q0 : ¬ (i : Int) < 60 := by omega
        go_wp2
        go_ret2
        exact ⟨a', n', c', L', by simp, ⟨HT.out.1, HT.out.2.1, HT.out.2.2, by have := HI.out; omega⟩, HGW⟩
    · go_wp2
      go_ret2
      exact ⟨a', n', c', L', by simp, ⟨HT.out.1, HT.out.2.1, HT.out.2.2, by have := HI.out; omega⟩, HGW⟩
end Go.Proofs.Ytnagknlfboadkaa.Oct

/- Layer 7 (tree): a call of both, the map and the list: many Deletes. -/
namespace Go.Proofs.Ytnagknlfboadkaa.Oct
open Go.RowKit

set_option maxRecDepth 100000 in
set_option maxHeartbeats 1000000 in
theorem play_dels (w : World) (m : Nat) (a : Option Addr) (n cap : Nat) (L : List Pr) (k v : ByteArray) (N : Int) (hT : Tr w m L) (hR : RdP w a n L) (hC : Cap a n cap) (hk : k.size ≤ 100000) (hn : L.length ≤ 90000) :
    Calls Try.prog 14 #[.pointer (some ⟨m, 0, none⟩), .slice a n cap, .agg #[.int .i64 6, .string k, .string v, .int .i64 N]] w (PlayP w m L) := by
  have hml := hT.lt
  have hnL : n = L.length := hR.1.symm
  have HQ : Hid (Tr w m L ∧ RdP w a n L ∧ Cap a n cap ∧ L.length ≤ 90000 ∧ n = L.length) := ⟨hT, hR, hC, hn, hnL⟩
  have HB1 : Hid (Below w.heap.size w (w.alloc (.cells #[.int .i64 6, .string k, .string v, .int .i64 N] 29))) := (Below.refl _ w).alloc (Nat.le_refl _) _
  have hbx := Blk.new w #[.int .i64 6, .string k, .string v, .int .i64 N] 29
  have HK : Hid (∀ W, (w.alloc (.cells #[.int .i64 6, .string k, .string v, .int .i64 N] 29)).grownBy W (some m) → W.cell? ⟨w.heap.size, 0, none⟩ = some (.int .i64 6) ∧ W.cell? ⟨w.heap.size, 1, none⟩ = some (.string k) ∧ W.cell? ⟨w.heap.size, 2, none⟩ = some (.string v) ∧ W.cell? ⟨w.heap.size, 3, none⟩ = some (.int .i64 N)) := fun W hW =>
    ⟨hW.cell (hbx.cell (i := 0) rfl) (by simp; omega), hW.cell (hbx.cell (i := 1) rfl) (by simp; omega), hW.cell (hbx.cell (i := 2) rfl) (by simp; omega), hW.cell (hbx.cell (i := 3) rfl) (by simp; omega)⟩
  have d1 := hbx.cell (i := 1) rfl
  clear hT hR hC hn hnL hbx
  go_enter Try.func14, Try.ntmps14
  go_wp2_with fail
  obtain ⟨w1, hw1⟩ : ∃ w1, w.alloc (.cells #[.int .i64 6, .string k, .string v, .int .i64 N] 29) = w1 := ⟨_, rfl⟩
  rw [hw1] at HB1 HK d1 ⊢
  refine (rget_is w1 a n cap L k (HQ.out.2.1.below HB1.out (Nat.le_refl _)) HQ.out.1.ris (by have := HQ.out; omega)).mono ?_
  rintro e w2 ⟨rfl, HB2⟩
  have HG2 : Hid (w1.grownBy w2 (some m)) := below_grown HB2.out _
  have HW2 : Hid (Below w.heap.size w w2) := HB1.out.trans (HB2.out.mono HB1.out.size)
  obtain ⟨k0, k1, k2, k3⟩ := HK.out w2 HG2.out
  have HKS : Hid (k.size ≤ 100000) := hk
  generalize (!(eqs k L).isEmpty) = E0
  generalize gv (eqs k L) = V0
  clear d1 hw1 hk
  go_wp2_with fail
  clear k0 k1 k2 k3
  go_loopw [10, 1] (fun u l wr => ∃ (i : Nat) (a' : Option Addr) (n' c' : Nat) (L' : List Pr), u = .int .i64 (i : Int) ∧ l = .slice a' n' c' ∧ Hid (i ≤ 60 ∧ L'.length ≤ L.length + i) ∧ Hid (Tr wr m L' ∧ RdP wr a' n' L' ∧ Cap a' n' c') ∧ Hid (w1.grownBy wr (some m)) ∧ Hid (w.grownBy wr (some m))) (fun u _ _ => 61 - (intOf u).toNat)
  case atStart => exact ⟨0, a, n, cap, L, rfl, rfl, ⟨by omega, by omega⟩, ⟨HQ.out.1.below HW2.out, HQ.out.2.1.below HW2.out (Nat.le_refl _), HQ.out.2.2.1⟩, HG2.out, below_grown HW2.out _⟩
  case round =>
    obtain ⟨i, a', n', c', L', rfl, rfl, HI, HT, HG, HGW⟩ := hrel
    obtain ⟨k0, k1, k2, k3⟩ := HK.out wr HG.out
    by_cases hi : (i : Int) < N
    · by_cases h60 : i < 60
      · have q0 : (i : Int) < 60 := by omega
        have q1 : (0 : Int) ≤ (i : Int) := by omega
        have HL60 : Hid (i < 60) := h60
        have H26 : Hid (Calls Try.prog 26 #[.string k, .int .i64 ((i : Int) * 7 % 60)] wr fun e w' => e = .returned (.string (numK k (i * 7 % 60))) ∧ Hid (Below wr.heap.size wr w')) := by
          show Calls _ _ _ _ _
          rw [show (i : Int) * 7 % 60 = ((i * 7 % 60 : Nat) : Int) by omega]
          exact number_is wr k (i * 7 % 60) (Nat.mod_lt _ (by omega)) HKS.out
        generalize numK k (i * 7 % 60) = kk at *
        have HRS : Hid (Ris L' ∧ n' = L'.length ∧ L'.length ≤ 95000) := ⟨HT.out.1.ris, HT.out.2.1.1.symm, by have := HI.out; have := HQ.out; omega⟩
        have H23 : Hid (∀ W, Below wr.heap.size wr W → Calls Try.prog 23 #[.slice a' n' c', .string kk] W fun e w' => e = .returned (.tuple #[.string (gv (eqs kk L')), .bool (!(eqs kk L').isEmpty)]) ∧ Hid (Below W.heap.size W w')) := fun W hW => rget_is W a' n' c' L' kk (HT.out.2.1.below hW (Nat.le_refl _)) HRS.out.1 (by have := HRS.out; omega)
        have H18 : Hid (∀ W, Below wr.heap.size wr W → Calls Try.prog 18 #[.pointer (some ⟨m, 0, none⟩), .string kk] W fun e w' => e = .returned (.bool (!(eqs kk L').isEmpty)) ∧ Hid (Tr w' m (remP L' kk)) ∧ Hid (W.grownBy w' (some m))) := fun W hW => tdel W m L' kk (HT.out.1.below hW) (by have := HRS.out; omega)
        generalize (!(eqs kk L').isEmpty) = E1 at *
        generalize gv (eqs kk L') = V1 at *
        go_wp2_with (first
          | (go_at_call 26; (with_reducible refine Calls.mono H26.out ?_); rintro e w3 ⟨rfl, HB3⟩)
          | (go_at_call 23; (with_reducible refine Calls.mono (H23.out w3 HB3.out) ?_); rintro e w4 ⟨rfl, hB4⟩; have HB4 : Hid (Below wr.heap.size wr w4) := HB3.out.trans (hB4.out.mono HB3.out.size); have HG4 : Hid (w1.grownBy w4 (some m)) := grown_tr HG.out (below_grown HB4.out _); obtain ⟨l0, l1, l2, l3⟩ := HK.out w4 HG4.out; clear hB4)
          | (go_at_call 18; (with_reducible refine Calls.mono (H18.out w4 HB4.out) ?_); rintro e w5 ⟨rfl, HT5, HG45⟩; have HG5 : Hid (w1.grownBy w5 (some m)) := grown_tr HG4.out HG45.out; obtain ⟨m0, m1, m2, m3⟩ := HK.out w5 HG5.out; have H25 : Hid (Calls Try.prog 25 #[.slice a' n' c', .string kk] w5 (Rows w5 (remP L' kk))) := rdel_is w5 a' n' c' L' kk ((HT.out.2.1.below HB4.out (Nat.le_refl _)).oth HG45.out (HT.out.1.below HB4.out).oth) HT.out.2.2 HRS.out.1 (by have := HRS.out; omega))
          | (go_at_call 25; (with_reducible refine Calls.mono H25.out ?_); rintro e w6 ⟨a6, n6, c6, rfl, HR6, HB6⟩))
        go_roundw
        case rel => exact ⟨i + 1, a6, n6, c6, remP L' kk, by simp, rfl, ⟨by have := HL60.out; omega, by have := rem_most HRS.out.1 kk; have := HI.out; omega⟩, ⟨HT5.out.below HB6.out, HR6.out⟩, grown_tr HG5.out (below_grown HB6.out _), grown_tr (grown_tr (grown_tr HGW.out (below_grown HB4.out _)) HG45.out) (below_grown HB6.out _)⟩
        case measure => have := HL60.out; simp [intOf]; omega
      · have q0 : ¬ (i : Int) < 60 := by omega
        go_wp2
        go_ret2
        exact ⟨a', n', c', L', by simp, ⟨HT.out.1, HT.out.2.1, HT.out.2.2, by have := HI.out; omega⟩, HGW⟩
    · go_wp2
      go_ret2
      exact ⟨a', n', c', L', by simp, ⟨HT.out.1, HT.out.2.1, HT.out.2.2, by have := HI.out; omega⟩, HGW⟩
end Go.Proofs.Ytnagknlfboadkaa.Oct

/- Layer 7 (tree): a call of both, the map and the list: Delete. -/
namespace Go.Proofs.Ytnagknlfboadkaa.Oct
open Go.RowKit

set_option maxRecDepth 100000 in
set_option maxHeartbeats 1000000 in
theorem play_del (w : World) (m : Nat) (a : Option Addr) (n cap : Nat) (L : List Pr) (k v : ByteArray) (N : Int) (hT : Tr w m L) (hR : RdP w a n L) (hC : Cap a n cap) (hn : L.length ≤ 90000) :
    Calls Try.prog 14 #[.pointer (some ⟨m, 0, none⟩), .slice a n cap, .agg #[.int .i64 1, .string k, .string v, .int .i64 N]] w (PlayP w m L) := by
  have hml := hT.lt
  have hnL : n = L.length := hR.1.symm
  have HQ : Hid (Tr w m L ∧ RdP w a n L ∧ Cap a n cap ∧ L.length ≤ 90000 ∧ n = L.length) := ⟨hT, hR, hC, hn, hnL⟩
  have HB1 : Hid (Below w.heap.size w (w.alloc (.cells #[.int .i64 1, .string k, .string v, .int .i64 N] 29))) := (Below.refl _ w).alloc (Nat.le_refl _) _
  have hbx := Blk.new w #[.int .i64 1, .string k, .string v, .int .i64 N] 29
  have HK : Hid (∀ W, (w.alloc (.cells #[.int .i64 1, .string k, .string v, .int .i64 N] 29)).grownBy W (some m) → W.cell? ⟨w.heap.size, 0, none⟩ = some (.int .i64 1) ∧ W.cell? ⟨w.heap.size, 1, none⟩ = some (.string k) ∧ W.cell? ⟨w.heap.size, 2, none⟩ = some (.string v)) := fun W hW =>
    ⟨hW.cell (hbx.cell (i := 0) rfl) (by simp; omega), hW.cell (hbx.cell (i := 1) rfl) (by simp; omega), hW.cell (hbx.cell (i := 2) rfl) (by simp; omega)⟩
  have d1 := hbx.cell (i := 1) rfl
  clear hT hR hC hn hnL hbx
  go_enter Try.func14, Try.ntmps14
  go_wp2_with fail
  obtain ⟨w1, hw1⟩ : ∃ w1, w.alloc (.cells #[.int .i64 1, .string k, .string v, .int .i64 N] 29) = w1 := ⟨_, rfl⟩
  rw [hw1] at HB1 HK d1 ⊢
  refine (rget_is w1 a n cap L k (HQ.out.2.1.below HB1.out (Nat.le_refl _)) HQ.out.1.ris (by have := HQ.out; omega)).mono ?_
  rintro e w2 ⟨rfl, HB2⟩
  have HG2 : Hid (w1.grownBy w2 (some m)) := below_grown HB2.out _
  have HW2 : Hid (Below w.heap.size w w2) := HB1.out.trans (HB2.out.mono HB1.out.size)
  obtain ⟨k0, k1, k2⟩ := HK.out w2 HG2.out
  have HG2d : Hid (w1.grownBy w2.drew (some m)) := below_grown HB2.out.drew _
  have HS1 : Hid (m < w1.heap.size) := by show _ < _; have := HB1.out.size; omega
  have H25 : Hid (Calls Try.prog 25 #[.slice a n cap, .string k] w2.drew (Rows w2.drew (remP L k))) := rdel_is w2.drew a n cap L k (HQ.out.2.1.below HW2.out.drew (Nat.le_refl _)) HQ.out.2.2.1 HQ.out.1.ris (by have := HQ.out; omega)
  generalize hE : (!(eqs k L).isEmpty) = E
  generalize gv (eqs k L) = V
  have HE : Hid ((!(eqs k L).isEmpty) = E) := hE
  clear d1 hE hw1
  go_wp2_with fail
  go_region_held_law (fun W => W.cell? ⟨w.heap.size, 1, none⟩ = some (.string k) ∧ W.cell? ⟨w.heap.size, 2, none⟩ = some (.string v))
    (first | with_reducible exact (HK.out _ HG2d.out).2 | with_reducible exact (HK.out _ HG3.out).2 | with_reducible exact (HK.out _ HG4.out).2)
    (first
    | (go_at_call 25; (with_reducible refine Calls.mono H25.out ?_); rintro e w3 ⟨a3, n3, cap3, rfl, HR3, hB3⟩; have HW3 : Hid (Below w.heap.size w w3) := HW2.out.drew.trans (hB3.out.mono HW2.out.size); have HG3 : Hid (w1.grownBy w3 (some m)) := grown_tr HG2d.out (below_grown hB3.out _); have H18 : Hid (Calls Try.prog 18 #[.pointer (some ⟨m, 0, none⟩), .string k] w3 fun e w' => e = .returned (.bool E) ∧ Hid (Tr w' m (remP L k)) ∧ Hid (w3.grownBy w' (some m))) := (by show Calls _ _ _ _ _; rw [← HE.out]; exact tdel w3 m L k (HQ.out.1.below HW3.out) (by have := HQ.out; omega)); clear hB3)
    | (go_at_call 18; (with_reducible refine Calls.mono H18.out ?_); rintro e w4 ⟨rfl, HT4, HG34⟩; have HG4 : Hid (w1.grownBy w4 (some m)) := grown_tr HG3.out HG34.out))
  go_wp2
  go_ret2
  refine ⟨a3, n3, cap3, remP L k, by simp, ⟨HT4.out, HR3.out.1.oth HG34.out (HQ.out.1.below HW3.out).oth, HR3.out.2, by have := rem_most HQ.out.1.ris k; omega⟩, grown_tr (below_grown HW3.out _) HG34.out⟩
end Go.Proofs.Ytnagknlfboadkaa.Oct

/- Layer 7 (tree): a call of both, the map and the list: Get. -/
namespace Go.Proofs.Ytnagknlfboadkaa.Oct
open Go.RowKit

set_option maxRecDepth 100000 in
set_option maxHeartbeats 1000000 in
theorem play_get (w : World) (m : Nat) (a : Option Addr) (n cap : Nat) (L : List Pr) (k v : ByteArray) (N K : Int) (h0 : ¬ K = 0) (h1 : ¬ K = 1) (h3 : ¬ K = 3) (h5 : ¬ K = 5) (h6 : ¬ K = 6) (hT : Tr w m L) (hR : RdP w a n L) (hC : Cap a n cap) (hn : L.length ≤ 90000) :
    Calls Try.prog 14 #[.pointer (some ⟨m, 0, none⟩), .slice a n cap, .agg #[.int .i64 K, .string k, .string v, .int .i64 N]] w (PlayP w m L) := by
  have hml := hT.lt
  have hnL : n = L.length := hR.1.symm
  have HQ : Hid (Tr w m L ∧ RdP w a n L ∧ Cap a n cap ∧ L.length ≤ 90000 ∧ n = L.length) := ⟨hT, hR, hC, hn, hnL⟩
  have HB1 : Hid (Below w.heap.size w (w.alloc (.cells #[.int .i64 K, .string k, .string v, .int .i64 N] 29))) := (Below.refl _ w).alloc (Nat.le_refl _) _
  have hbx := Blk.new w #[.int .i64 K, .string k, .string v, .int .i64 N] 29
  have HK : Hid (∀ W, (w.alloc (.cells #[.int .i64 K, .string k, .string v, .int .i64 N] 29)).grownBy W (some m) → W.cell? ⟨w.heap.size, 0, none⟩ = some (.int .i64 K) ∧ W.cell? ⟨w.heap.size, 1, none⟩ = some (.string k) ∧ W.cell? ⟨w.heap.size, 2, none⟩ = some (.string v)) := fun W hW =>
    ⟨hW.cell (hbx.cell (i := 0) rfl) (by simp; omega), hW.cell (hbx.cell (i := 1) rfl) (by simp; omega), hW.cell (hbx.cell (i := 2) rfl) (by simp; omega)⟩
  have d1 := hbx.cell (i := 1) rfl
  clear hT hR hC hn hnL hbx
  go_enter Try.func14, Try.ntmps14
  go_wp2_with fail
  obtain ⟨w1, hw1⟩ : ∃ w1, w.alloc (.cells #[.int .i64 K, .string k, .string v, .int .i64 N] 29) = w1 := ⟨_, rfl⟩
  rw [hw1] at HB1 HK d1 ⊢
  refine (rget_is w1 a n cap L k (HQ.out.2.1.below HB1.out (Nat.le_refl _)) HQ.out.1.ris (by have := HQ.out; omega)).mono ?_
  rintro e w2 ⟨rfl, HB2⟩
  have HG2 : Hid (w1.grownBy w2 (some m)) := below_grown HB2.out _
  have HW2 : Hid (Below w.heap.size w w2) := HB1.out.trans (HB2.out.mono HB1.out.size)
  obtain ⟨k0, k1, k2⟩ := HK.out w2 HG2.out
  generalize hE : (!(eqs k L).isEmpty) = E
  generalize hV : gv (eqs k L) = V
  have HE : Hid ((!(eqs k L).isEmpty) = E ∧ gv (eqs k L) = V) := ⟨hE, hV⟩
  have H21 : Hid (Calls Try.prog 21 #[.pointer (some ⟨m, 0, none⟩), .string k] w2 fun e w' => e = .returned (.tuple #[.string V, .bool E]) ∧ Hid (Below w2.heap.size w2 w')) := by
    show Calls _ _ _ _ _
    rw [← HE.out.1, ← HE.out.2]
    exact tget w2 m L k (HQ.out.1.below HW2.out)
  clear d1 hE hV hw1
  go_wp2_with (go_at_call 21; (with_reducible refine Calls.mono H21.out ?_); rintro e w3 ⟨rfl, HB3⟩)
  go_ret2
  have hB := HW2.out.trans (HB3.out.mono HW2.out.size)
  exact ⟨a, n, cap, L, by simp, ⟨HQ.out.1.below hB, HQ.out.2.1.below hB (Nat.le_refl _), HQ.out.2.2.1, by omega⟩, below_grown hB _⟩
end Go.Proofs.Ytnagknlfboadkaa.Oct

/- Layer 7 (tree): a call of both, the map and the list: Scan. -/
namespace Go.Proofs.Ytnagknlfboadkaa.Oct
open Go.RowKit

set_option maxRecDepth 100000 in
set_option maxHeartbeats 1000000 in
theorem play_scan (w : World) (m : Nat) (a : Option Addr) (n cap : Nat) (L : List Pr) (k v : ByteArray) (N : Int) (hT : Tr w m L) (hR : RdP w a n L) (hC : Cap a n cap) (hn : L.length ≤ 90000) :
    Calls Try.prog 14 #[.pointer (some ⟨m, 0, none⟩), .slice a n cap, .agg #[.int .i64 3, .string k, .string v, .int .i64 N]] w (PlayP w m L) := by
  have hml := hT.lt
  have hnL : n = L.length := hR.1.symm
  have HQ : Hid (Tr w m L ∧ RdP w a n L ∧ Cap a n cap ∧ L.length ≤ 90000 ∧ n = L.length) := ⟨hT, hR, hC, hn, hnL⟩
  have HB1 : Hid (Below w.heap.size w (w.alloc (.cells #[.int .i64 3, .string k, .string v, .int .i64 N] 29))) := (Below.refl _ w).alloc (Nat.le_refl _) _
  have hbx := Blk.new w #[.int .i64 3, .string k, .string v, .int .i64 N] 29
  have HK : Hid (∀ W, (w.alloc (.cells #[.int .i64 3, .string k, .string v, .int .i64 N] 29)).grownBy W (some m) → W.cell? ⟨w.heap.size, 0, none⟩ = some (.int .i64 3) ∧ W.cell? ⟨w.heap.size, 1, none⟩ = some (.string k) ∧ W.cell? ⟨w.heap.size, 2, none⟩ = some (.string v)) := fun W hW =>
    ⟨hW.cell (hbx.cell (i := 0) rfl) (by simp; omega), hW.cell (hbx.cell (i := 1) rfl) (by simp; omega), hW.cell (hbx.cell (i := 2) rfl) (by simp; omega)⟩
  have d1 := hbx.cell (i := 1) rfl
  clear hT hR hC hn hnL hbx
  go_enter Try.func14, Try.ntmps14
  go_wp2_with fail
  obtain ⟨w1, hw1⟩ : ∃ w1, w.alloc (.cells #[.int .i64 3, .string k, .string v, .int .i64 N] 29) = w1 := ⟨_, rfl⟩
  rw [hw1] at HB1 HK d1 ⊢
  refine (rget_is w1 a n cap L k (HQ.out.2.1.below HB1.out (Nat.le_refl _)) HQ.out.1.ris (by have := HQ.out; omega)).mono ?_
  rintro e w2 ⟨rfl, HB2⟩
  have HG2 : Hid (w1.grownBy w2 (some m)) := below_grown HB2.out _
  have HW2 : Hid (Below w.heap.size w w2) := HB1.out.trans (HB2.out.mono HB1.out.size)
  obtain ⟨k0, k1, k2⟩ := HK.out w2 HG2.out
  have HG2d : Hid (w1.grownBy w2.drew (some m)) := below_grown HB2.out.drew _
  have HS1 : Hid (m < w1.heap.size) := by show _ < _; have := HB1.out.size; omega
  have H13 : Hid (Calls Try.prog 13 #[.pointer (some ⟨m, 0, none⟩), .string k, .string v] w2.drew fun e w' => ∃ (a' : Option Addr) (n' c' : Nat), e = .returned (.slice a' n' c') ∧ Hid (RdP w' a' n' (L.filter (inS k v)) ∧ n' ≤ 90000) ∧ Hid (Below w2.drew.heap.size w2.drew w')) := by
    refine Calls.mono (told_all w2.drew m L k v (HQ.out.1.below HW2.out.drew) (by have := HQ.out; omega)) ?_
    rintro e w' ⟨u, rfl, hO, hB⟩
    have hO2 : Bs 40 2 w2.drew.heap.size w' u (scanT k v L).length ((scanT k v L).flatMap pc) := .inr ⟨fun u hu => by
      obtain ⟨x, _, hx⟩ := List.mem_flatMap.1 hu
      simp only [pc, List.mem_cons, List.not_mem_nil, or_false] at hx
      rcases hx with rfl | rfl <;> rfl, hO.out⟩
    obtain ⟨a', c', rfl, _, h2, _⟩ := hO2.read
    refine ⟨a', _, c', rfl, ⟨?_, ?_⟩, hB⟩
    · rw [← scanT_is HQ.out.1.ris]; exact h2.toP
    · rw [scanT_is HQ.out.1.ris]; have := List.length_filter_le (inS k v) L; have := HQ.out.2.2.2.1; omega
  clear d1 hw1
  go_wp2_with fail
  go_region_held_law (fun W => W.cell? ⟨w.heap.size, 1, none⟩ = some (.string k) ∧ W.cell? ⟨w.heap.size, 2, none⟩ = some (.string v))
    (first | with_reducible exact (HK.out _ HG2d.out).2 | with_reducible exact (HK.out _ HG3.out).2 | with_reducible exact (HK.out _ HG4.out).2 | with_reducible exact (HK.out _ HG5.out).2)
    (first
    | (go_at_call 13; (with_reducible refine Calls.mono H13.out ?_); rintro e w3 ⟨a3, n3, cap3, rfl, HR3, hB3⟩; have HW3 : Hid (Below w.heap.size w w3) := HW2.out.drew.trans (hB3.out.mono HW2.out.size); have HG3 : Hid (w1.grownBy w3 (some m)) := grown_tr HG2d.out (below_grown hB3.out _); have H16 : Hid (Calls Try.prog 16 #[.slice a n cap, .string k, .string v] w3 (Rows w3 (L.filter (inS k v)))) := rscan_is w3 a n cap L k v (HQ.out.2.1.below HW3.out (Nat.le_refl _)) (by have := HQ.out; omega); clear hB3)
    | (go_at_call 16; (with_reducible refine Calls.mono H16.out ?_); rintro e w4 ⟨a4, n4, cap4, rfl, HR4, hB4⟩; have HW4 : Hid (Below w.heap.size w w4) := HW3.out.trans (hB4.out.mono HW3.out.size); have HG4 : Hid (w1.grownBy w4 (some m)) := grown_tr HG3.out (below_grown hB4.out _); have H12 : Hid (Calls Try.prog 12 #[.slice a3 n3 cap3, .slice a4 n4 cap4] w4 fun e w' => e = .returned (.bool true) ∧ Hid (Below w4.heap.size w4 w')) := (by show Calls _ _ _ _ _; rw [← sameP_yes (rfl : L.filter (inS k v) = L.filter (inS k v))]; exact same_any w4 a3 n3 cap3 _ a4 n4 cap4 _ (HR3.out.1.below hB4.out (Nat.le_refl _)) HR4.out.1 (by have := HR3.out.2; omega) (by have := HR4.out.1.1; have := HR3.out.1.1; have := HR3.out.2; omega)); clear hB4)
    | (go_at_call 12; (with_reducible refine Calls.mono H12.out ?_); rintro e w5 ⟨rfl, hB5⟩; have HW5 : Hid (Below w.heap.size w w5) := HW4.out.trans (hB5.out.mono HW4.out.size); have HG5 : Hid (w1.grownBy w5 (some m)) := grown_tr HG4.out (below_grown hB5.out _); clear hB5))
  go_wp2
  go_ret2
  exact ⟨a, n, cap, L, by simp, ⟨HQ.out.1.below HW5.out, HQ.out.2.1.below HW5.out (Nat.le_refl _), HQ.out.2.2.1, by omega⟩, below_grown HW5.out _⟩
end Go.Proofs.Ytnagknlfboadkaa.Oct

/- Layer 7 (tree): the laws' lists of calls among their arguments, as the walks take them. -/
namespace Go.Proofs.Ytnagknlfboadkaa.Oct
open Go.RowKit Go.ChangeShapes Go.WideShapes Go.ChangeAt Go.Deep

/-- a call, told -/
structure ActV where
  kind : Int
  key : ByteArray
  val : ByteArray
  n : Int

instance : Inhabited ActV := ⟨⟨0, ⟨#[]⟩, ⟨#[]⟩, 0⟩⟩

/-- a call at its place in memory -/
def ActAt (w : World) (b off : Nat) (x : ActV) : Prop :=
  w.cell? ⟨b, off, none⟩ = some (.int .i64 x.kind) ∧ w.cell? ⟨b, off + 1, none⟩ = some (.string x.key) ∧ w.cell? ⟨b, off + 2, none⟩ = some (.string x.val) ∧ w.cell? ⟨b, off + 3, none⟩ = some (.int .i64 x.n) ∧ x.key.size ≤ 140737488355328 ∧ x.val.size ≤ 140737488355328
theorem ActAt.below {w w' : World} {b off : Nat} {x : ActV} (h : ActAt w b off x) (hb : Below w.heap.size w w') (hl : b < w.heap.size) : ActAt w' b off x :=
  ⟨(hb.cell (p := ⟨b, off, none⟩) hl).trans h.1, (hb.cell (p := ⟨b, off + 1, none⟩) hl).trans h.2.1, (hb.cell (p := ⟨b, off + 2, none⟩) hl).trans h.2.2.1, (hb.cell (p := ⟨b, off + 3, none⟩) hl).trans h.2.2.2.1, h.2.2.2.2⟩

/-- a list of calls that came in -/
def ArgA (w : World) (a : Option Addr) (len cap : Nat) (l : List ActV) : Prop :=
  l.length = len ∧ len ≤ cap ∧ cap ≤ maxLen ∧ (0 < len → ∃ b off, a = some ⟨b, off, none⟩ ∧ b < w.heap.size ∧ ∀ i x, l[i]? = some x → ActAt w b (off + i * 4) x)
theorem ArgA.nil (w : World) : ArgA w none 0 0 [] := ⟨rfl, Nat.le_refl _, by unfold maxLen; omega, fun h => absurd h (by omega)⟩
theorem ArgA.below {w w' : World} {a : Option Addr} {len cap : Nat} {l : List ActV} (h : ArgA w a len cap l) (hb : Below w.heap.size w w') : ArgA w' a len cap l := by
  obtain ⟨h1, h2, h3, h5⟩ := h
  refine ⟨h1, h2, h3, fun hp => ?_⟩
  obtain ⟨b, off, e1, e2, e3⟩ := h5 hp
  exact ⟨b, off, e1, Nat.lt_of_lt_of_le e2 hb.size, fun i x hx => (e3 i x hx).below hb e2⟩

section
variable {H : Type} {enc : TypeId × Value → H} {w : World}

theorem mem_weightsAll {P : Program} {e : TypeId} {d : DataW H} {n : Nat} (hn : n ∈ d.weights P e) : ∀ {ds : List (DataW H)}, d ∈ ds → n ∈ DataW.weightsAll P e ds
  | [], h => by cases h
  | d0 :: r, h => by
    simp only [DataW.weightsAll, List.mem_append]
    rcases List.mem_cons.1 h with rfl | h
    · exact .inl hn
    · exact .inr (mem_weightsAll hn h)
theorem four {α : Type} {l : List α} (h : l.length = 4) : ∃ a b c d, l = [a, b, c, d] := by
  rcases l with _ | ⟨a, _ | ⟨b, _ | ⟨c, _ | ⟨d, _ | ⟨f, l⟩⟩⟩⟩⟩ <;> simp at h
  exact ⟨a, b, c, d, rfl⟩
/-- a string in a field -/
theorem field_str {n : Nat} {v : Value} {x : DataW H × List MemPlace} (h : DataW.trod enc Try.prog w 0 (fun _ => true) true n 9 [v] = some x) (hx : ∀ k ∈ x.1.weights Try.prog 9, k ≤ reachBytes) :
    ∃ s : ByteArray, v = .string s ∧ s.size ≤ 140737488355328 := by
  obtain ⟨s, hs, hd, _⟩ := DataW.trod_string Try.underlying9 h
  refine ⟨s, by simpa using hs, ?_⟩
  have hmem : s.size ∈ x.1.weights Try.prog 9 := by
    rw [hd]
    simp [DataW.weights]
  have := hx _ hmem
  simp only [reachBytes] at this
  omega

/-- a list of calls that was read -/
theorem view_acts {fuel : Nat} {a : Option Addr} {len cap : Nat} {x : DataW H × List MemPlace} (h : DataW.trod enc Try.prog w 0 (fun _ => true) true fuel 22 (Value.slice a len cap).cells.toList = some x) (hx : ∀ n ∈ x.1.weights Try.prog 22, n ≤ reachBytes) :
    ∃ l, ArgA w a len cap l := by
  rcases open_slice Try.underlying22 h with ⟨hcs, _⟩ | ⟨ad, l, c, m, n, D, Pl, hcs, _, hl, hm, hmm, hd, hr⟩
  · simp [Value.cells] at hcs
    obtain ⟨rfl, rfl, rfl⟩ := hcs
    exact ⟨[], ArgA.nil w⟩
  · simp [Value.cells] at hcs
    obtain ⟨rfl, rfl, rfl⟩ := hcs
    simp at hmm
    have ce : Try.prog.cellsOf 29 = 4 := by kernel_rfl
    rw [ce] at hr
    have hsp : 0 < len → ad.spot = none := fun hp => by
      obtain ⟨cs, h1, _⟩ := hr 0 (by omega)
      obtain ⟨_, hlen, hcell⟩ := World.cells?_some h1
      have h0 := hcell 0 (by omega)
      rw [List.getElem?_eq_getElem (by omega)] at h0
      have := World.cell?_spot h0
      simpa [Addr.add] using this
    have each : ∀ i, i < len → ∃ x : ActV, ∃ b off, ad = ⟨b, off, none⟩ ∧ b < w.heap.size ∧ ActAt w b (off + i * 4) x := by
      intro i hi
      obtain ⟨cs, h1, h2⟩ := hr i (by omega)
      obtain ⟨_, hlen, hcell⟩ := World.cells?_some h1
      obtain ⟨xs, k, hk, hxy, _, hxl, hf⟩ := DataW.trod_struct Try.underlying29 h2
      have hxl' : xs.length = 4 := hxl
      obtain ⟨y0, y1, y2, y3, rfl⟩ := four hxl'
      obtain ⟨v0, v1, v2, v3, rfl⟩ := four hlen
      have g0 := hf 0 _ rfl
      have g1 := hf 1 _ rfl
      have g2 := hf 2 _ rfl
      have g3 := hf 3 _ rfl
      have q3 : Try.prog.cellsOf 3 = 1 := by kernel_rfl
      have q9 : Try.prog.cellsOf 9 = 1 := by kernel_rfl
      change DataW.trod enc Try.prog w 0 _ true k 3 (([v0, v1, v2, v3].drop 0).take (Try.prog.cellsOf 3)) = some y0 at g0
      change DataW.trod enc Try.prog w 0 _ true k 9 (([v0, v1, v2, v3].drop 1).take (Try.prog.cellsOf 9)) = some y1 at g1
      change DataW.trod enc Try.prog w 0 _ true k 9 (([v0, v1, v2, v3].drop 2).take (Try.prog.cellsOf 9)) = some y2 at g2
      change DataW.trod enc Try.prog w 0 _ true k 3 (([v0, v1, v2, v3].drop 3).take (Try.prog.cellsOf 3)) = some y3 at g3
      rw [q3] at g0 g3
      rw [q9] at g1 g2
      simp only [List.drop, List.take] at g0 g1 g2 g3
      have e0 := hcell 0 (by omega)
      have e1 := hcell 1 (by omega)
      have e2 := hcell 2 (by omega)
      have e3 := hcell 3 (by omega)
      have hD : D i = .agg [y0.1, y1.1, y2.1, y3.1] := (Prod.mk.inj hxy).1
      have hmem : ∀ q ∈ (D i).weights Try.prog 29, q ≤ reachBytes := fun q hq => by
        refine hx q ?_
        rw [hd]
        simp only [DataW.weights, Try.underlying22]
        exact List.mem_cons.2 (.inr (List.mem_append.2 (.inl (mem_weightsAll hq (List.mem_map.2 ⟨i, List.mem_range.2 hi, rfl⟩)))))
      rw [hD] at hmem
      simp only [DataW.weights, Try.underlying29, List.map, DataW.weightsEach, List.mem_append] at hmem
      obtain ⟨k0, hv0, _, _⟩ := DataW.trod_int Try.underlying3 g0
      obtain ⟨s1, hv1, hs1⟩ := field_str g1 (fun q hq => hmem q (.inr (.inl hq)))
      obtain ⟨s2, hv2, hs2⟩ := field_str g2 (fun q hq => hmem q (.inr (.inr (.inl hq))))
      obtain ⟨k3, hv3, _, _⟩ := DataW.trod_int Try.underlying3 g3
      simp at hv0 hv3
      subst hv0 hv1 hv2 hv3
      obtain ⟨b, off, spot⟩ := ad
      have hspot : spot = none := hsp (by omega)
      subst hspot
      rw [Addr.add_lit, Addr.add_lit] at e0 e1 e2 e3
      refine ⟨⟨k0, s1, s2, k3⟩, b, off, rfl, ?_, by simpa using e0, by simpa using e1, by simpa using e2, by simpa using e3, hs1, hs2⟩
      have := World.block_lt_of_cell? w _ e0
      simpa using this
    obtain ⟨G, hG⟩ := choose_lt (p := fun i x => ∃ b off, ad = ⟨b, off, none⟩ ∧ b < w.heap.size ∧ ActAt w b (off + i * 4) x) each
    refine ⟨(List.range len).map G, by simp, hl, hm, fun hp => ?_⟩
    obtain ⟨b, off, e1, e2, _⟩ := hG 0 hp
    refine ⟨b, off, by rw [e1], e2, fun i x hi => ?_⟩
    have hlt : i < len := by
      have := (List.getElem?_eq_some_iff.1 hi).1
      simpa using this
    have e : G i = x := by simpa [List.getElem?_map, List.getElem?_range hlt] using hi
    subst e
    obtain ⟨b', off', f1, _, f3⟩ := hG i hlt
    rw [e1] at f1
    cases f1
    exact f3
end

/-- a call of both, whatever it is -/
theorem play_is (w : World) (m : Nat) (a : Option Addr) (n cap : Nat) (L : List Pr) (x : ActV) (hT : Tr w m L) (hR : RdP w a n L) (hC : Cap a n cap) (hk : x.key.size ≤ 100000) (hn : L.length ≤ 90000) :
    Calls Try.prog 14 #[.pointer (some ⟨m, 0, none⟩), .slice a n cap, .agg #[.int .i64 x.kind, .string x.key, .string x.val, .int .i64 x.n]] w (PlayP w m L) := by
  obtain ⟨K, k, v, N⟩ := x
  by_cases h0 : K = 0
  · subst h0; exact play_put w m a n cap L k v N hT hR hC hn
  by_cases h1 : K = 1
  · subst h1; exact play_del w m a n cap L k v N hT hR hC hn
  by_cases h3 : K = 3
  · subst h3; exact play_scan w m a n cap L k v N hT hR hC hn
  by_cases h5 : K = 5
  · subst h5; exact play_puts w m a n cap L k v N hT hR hC hk hn
  by_cases h6 : K = 6
  · subst h6; exact play_dels w m a n cap L k v N hT hR hC hk hn
  · exact play_get w m a n cap L k v N K h0 h1 h3 h5 h6 hT hR hC hn
end Go.Proofs.Ytnagknlfboadkaa.Oct

/- Layer 7 (tree): a call of both; the keys' sizes stay bounded. -/
namespace Go.Proofs.Ytnagknlfboadkaa.Oct
open Go.RowKit

/-- no key is long -/
def KeyOk (L : List Pr) : Prop := ∀ p ∈ L, p.1.size ≤ 100010
theorem KeyOk.ins {L : List Pr} {x : Pr} (h : KeyOk L) (hx : x.1.size ≤ 100010) : KeyOk (insP L x) := by
  intro p hp
  simp only [insP, lo, hi, List.mem_append, List.mem_filter, List.mem_cons, List.not_mem_nil, or_false] at hp
  rcases hp with (⟨h1, _⟩ | rfl) | ⟨h1, _⟩
  · exact h p h1
  · exact hx
  · exact h p h1
theorem KeyOk.rem {L : List Pr} {k : ByteArray} (h : KeyOk L) : KeyOk (remP L k) := by
  intro p hp
  simp only [remP, lo, hi, List.mem_append, List.mem_filter] at hp
  rcases hp with ⟨h1, _⟩ | ⟨h1, _⟩ <;> exact h p h1
theorem numK_size (k : ByteArray) (n : Nat) (h : k.size ≤ 100000) : (numK k n).size ≤ 100010 := by
  unfold numK; rw [ByteArray.size_append]
  show _ + (num2 n).toArray.size ≤ _
  simp [num2]; omega
/-- behind a call of both -/
def PlayK (w : World) (m : Nat) (L : List Pr) (e : Ending) (w' : World) : Prop := ∃ (a' : Option Addr) (n' cap' : Nat) (L' : List Pr), e = .returned (.tuple #[.slice a' n' cap', .bool true]) ∧ Hid (Tr w' m L' ∧ RdP w' a' n' L' ∧ Cap a' n' cap' ∧ L'.length ≤ L.length + 60) ∧ Hid (w.grownBy w' (some m)) ∧ Hid (KeyOk L → KeyOk L')
end Go.Proofs.Ytnagknlfboadkaa.Oct

/- Layer 7 (tree): Put; the keys' sizes stay bounded. -/
namespace Go.Proofs.Ytnagknlfboadkaa.Oct
open Go.RowKit

set_option maxRecDepth 100000 in
set_option maxHeartbeats 1000000 in
theorem playk_put (w : World) (m : Nat) (a : Option Addr) (n cap : Nat) (L : List Pr) (k v : ByteArray) (N : Int) (hT : Tr w m L) (hR : RdP w a n L) (hC : Cap a n cap) (hk : k.size ≤ 100000) (hn : L.length ≤ 90000) :
    Calls Try.prog 14 #[.pointer (some ⟨m, 0, none⟩), .slice a n cap, .agg #[.int .i64 0, .string k, .string v, .int .i64 N]] w (PlayK w m L) := by
  have HKS : Hid (k.size ≤ 100010) := by show _ ≤ _; omega
  clear hk
  have hml := hT.lt
  have hnL : n = L.length := hR.1.symm
  have HQ : Hid (Tr w m L ∧ RdP w a n L ∧ Cap a n cap ∧ L.length ≤ 90000 ∧ n = L.length) := ⟨hT, hR, hC, hn, hnL⟩
  have HB1 : Hid (Below w.heap.size w (w.alloc (.cells #[.int .i64 0, .string k, .string v, .int .i64 N] 29))) := (Below.refl _ w).alloc (Nat.le_refl _) _
  have hbx := Blk.new w #[.int .i64 0, .string k, .string v, .int .i64 N] 29
  have HK : Hid (∀ W, (w.alloc (.cells #[.int .i64 0, .string k, .string v, .int .i64 N] 29)).grownBy W (some m) → W.cell? ⟨w.heap.size, 0, none⟩ = some (.int .i64 0) ∧ W.cell? ⟨w.heap.size, 1, none⟩ = some (.string k) ∧ W.cell? ⟨w.heap.size, 2, none⟩ = some (.string v)) := fun W hW =>
    ⟨hW.cell (hbx.cell (i := 0) rfl) (by simp; omega), hW.cell (hbx.cell (i := 1) rfl) (by simp; omega), hW.cell (hbx.cell (i := 2) rfl) (by simp; omega)⟩
  have d1 := hbx.cell (i := 1) rfl
  clear hT hR hC hn hnL hbx
  go_enter Try.func14, Try.ntmps14
  go_wp2_with fail
  obtain ⟨w1, hw1⟩ : ∃ w1, w.alloc (.cells #[.int .i64 0, .string k, .string v, .int .i64 N] 29) = w1 := ⟨_, rfl⟩
  rw [hw1] at HB1 HK d1 ⊢
  refine (rget_is w1 a n cap L k (HQ.out.2.1.below HB1.out (Nat.le_refl _)) HQ.out.1.ris (by have := HQ.out; omega)).mono ?_
  rintro e w2 ⟨rfl, HB2⟩
  have HG2 : Hid (w1.grownBy w2 (some m)) := below_grown HB2.out _
  have HW2 : Hid (Below w.heap.size w w2) := HB1.out.trans (HB2.out.mono HB1.out.size)
  obtain ⟨k0, k1, k2⟩ := HK.out w2 HG2.out
  have HG2d : Hid (w1.grownBy w2.drew (some m)) := below_grown HB2.out.drew _
  have HS1 : Hid (m < w1.heap.size) := by show _ < _; have := HB1.out.size; omega
  have H24 : Hid (Calls Try.prog 24 #[.slice a n cap, .string k, .string v] w2.drew (Rows w2.drew (insP L (k, v)))) := rput_is w2.drew a n cap L (k, v) (HQ.out.2.1.below HW2.out.drew (Nat.le_refl _)) HQ.out.2.2.1 HQ.out.1.ris (by have := HQ.out; omega)
  generalize hE : (!(eqs k L).isEmpty) = E
  generalize gv (eqs k L) = V
  have HE : Hid ((!(eqs k L).isEmpty) = E) := hE
  clear d1 hE hw1
  go_wp2_with fail
  go_region_held_law (fun W => W.cell? ⟨w.heap.size, 1, none⟩ = some (.string k) ∧ W.cell? ⟨w.heap.size, 2, none⟩ = some (.string v))
    (first | with_reducible exact (HK.out _ HG2d.out).2 | with_reducible exact (HK.out _ HG3.out).2 | with_reducible exact (HK.out _ HG4.out).2)
    (first
    | (go_at_call 24; (with_reducible refine Calls.mono H24.out ?_); rintro e w3 ⟨a3, n3, cap3, rfl, HR3, hB3⟩; have HW3 : Hid (Below w.heap.size w w3) := HW2.out.drew.trans (hB3.out.mono HW2.out.size); have HG3 : Hid (w1.grownBy w3 (some m)) := grown_tr HG2d.out (below_grown hB3.out _); have H19 : Hid (Calls Try.prog 19 #[.pointer (some ⟨m, 0, none⟩), .string k, .string v] w3 fun e w' => e = .returned (.bool E) ∧ Hid (Tr w' m (insP L (k, v))) ∧ Hid (w3.grownBy w' (some m))) := (by show Calls _ _ _ _ _; rw [← HE.out]; exact tput w3 m L (k, v) (HQ.out.1.below HW3.out) (by have := HQ.out; omega)); clear hB3)
    | (go_at_call 19; (with_reducible refine Calls.mono H19.out ?_); rintro e w4 ⟨rfl, HT4, HG34⟩; have HG4 : Hid (w1.grownBy w4 (some m)) := grown_tr HG3.out HG34.out))
  go_wp2
  go_ret2
  refine ⟨a3, n3, cap3, insP L (k, v), by simp, ⟨HT4.out, HR3.out.1.oth HG34.out (HQ.out.1.below HW3.out).oth, HR3.out.2, by have := ins_most HQ.out.1.ris (k, v); omega⟩, grown_tr (below_grown HW3.out _) HG34.out, fun h => h.ins HKS.out⟩
end Go.Proofs.Ytnagknlfboadkaa.Oct

/- Layer 7 (tree): Delete; the keys' sizes stay bounded. -/
namespace Go.Proofs.Ytnagknlfboadkaa.Oct
open Go.RowKit

set_option maxRecDepth 100000 in
set_option maxHeartbeats 1000000 in
theorem playk_del (w : World) (m : Nat) (a : Option Addr) (n cap : Nat) (L : List Pr) (k v : ByteArray) (N : Int) (hT : Tr w m L) (hR : RdP w a n L) (hC : Cap a n cap) (hn : L.length ≤ 90000) :
    Calls Try.prog 14 #[.pointer (some ⟨m, 0, none⟩), .slice a n cap, .agg #[.int .i64 1, .string k, .string v, .int .i64 N]] w (PlayK w m L) := by
  have hml := hT.lt
  have hnL : n = L.length := hR.1.symm
  have HQ : Hid (Tr w m L ∧ RdP w a n L ∧ Cap a n cap ∧ L.length ≤ 90000 ∧ n = L.length) := ⟨hT, hR, hC, hn, hnL⟩
  have HB1 : Hid (Below w.heap.size w (w.alloc (.cells #[.int .i64 1, .string k, .string v, .int .i64 N] 29))) := (Below.refl _ w).alloc (Nat.le_refl _) _
  have hbx := Blk.new w #[.int .i64 1, .string k, .string v, .int .i64 N] 29
  have HK : Hid (∀ W, (w.alloc (.cells #[.int .i64 1, .string k, .string v, .int .i64 N] 29)).grownBy W (some m) → W.cell? ⟨w.heap.size, 0, none⟩ = some (.int .i64 1) ∧ W.cell? ⟨w.heap.size, 1, none⟩ = some (.string k) ∧ W.cell? ⟨w.heap.size, 2, none⟩ = some (.string v)) := fun W hW =>
    ⟨hW.cell (hbx.cell (i := 0) rfl) (by simp; omega), hW.cell (hbx.cell (i := 1) rfl) (by simp; omega), hW.cell (hbx.cell (i := 2) rfl) (by simp; omega)⟩
  have d1 := hbx.cell (i := 1) rfl
  clear hT hR hC hn hnL hbx
  go_enter Try.func14, Try.ntmps14
  go_wp2_with fail
  obtain ⟨w1, hw1⟩ : ∃ w1, w.alloc (.cells #[.int .i64 1, .string k, .string v, .int .i64 N] 29) = w1 := ⟨_, rfl⟩
  rw [hw1] at HB1 HK d1 ⊢
  refine (rget_is w1 a n cap L k (HQ.out.2.1.below HB1.out (Nat.le_refl _)) HQ.out.1.ris (by have := HQ.out; omega)).mono ?_
  rintro e w2 ⟨rfl, HB2⟩
  have HG2 : Hid (w1.grownBy w2 (some m)) := below_grown HB2.out _
  have HW2 : Hid (Below w.heap.size w w2) := HB1.out.trans (HB2.out.mono HB1.out.size)
  obtain ⟨k0, k1, k2⟩ := HK.out w2 HG2.out
  have HG2d : Hid (w1.grownBy w2.drew (some m)) := below_grown HB2.out.drew _
  have HS1 : Hid (m < w1.heap.size) := by show _ < _; have := HB1.out.size; omega
  have H25 : Hid (Calls Try.prog 25 #[.slice a n cap, .string k] w2.drew (Rows w2.drew (remP L k))) := rdel_is w2.drew a n cap L k (HQ.out.2.1.below HW2.out.drew (Nat.le_refl _)) HQ.out.2.2.1 HQ.out.1.ris (by have := HQ.out; omega)
  generalize hE : (!(eqs k L).isEmpty) = E
  generalize gv (eqs k L) = V
  have HE : Hid ((!(eqs k L).isEmpty) = E) := hE
  clear d1 hE hw1
  go_wp2_with fail
  go_region_held_law (fun W => W.cell? ⟨w.heap.size, 1, none⟩ = some (.string k) ∧ W.cell? ⟨w.heap.size, 2, none⟩ = some (.string v))
    (first | with_reducible exact (HK.out _ HG2d.out).2 | with_reducible exact (HK.out _ HG3.out).2 | with_reducible exact (HK.out _ HG4.out).2)
    (first
    | (go_at_call 25; (with_reducible refine Calls.mono H25.out ?_); rintro e w3 ⟨a3, n3, cap3, rfl, HR3, hB3⟩; have HW3 : Hid (Below w.heap.size w w3) := HW2.out.drew.trans (hB3.out.mono HW2.out.size); have HG3 : Hid (w1.grownBy w3 (some m)) := grown_tr HG2d.out (below_grown hB3.out _); have H18 : Hid (Calls Try.prog 18 #[.pointer (some ⟨m, 0, none⟩), .string k] w3 fun e w' => e = .returned (.bool E) ∧ Hid (Tr w' m (remP L k)) ∧ Hid (w3.grownBy w' (some m))) := (by show Calls _ _ _ _ _; rw [← HE.out]; exact tdel w3 m L k (HQ.out.1.below HW3.out) (by have := HQ.out; omega)); clear hB3)
    | (go_at_call 18; (with_reducible refine Calls.mono H18.out ?_); rintro e w4 ⟨rfl, HT4, HG34⟩; have HG4 : Hid (w1.grownBy w4 (some m)) := grown_tr HG3.out HG34.out))
  go_wp2
  go_ret2
  refine ⟨a3, n3, cap3, remP L k, by simp, ⟨HT4.out, HR3.out.1.oth HG34.out (HQ.out.1.below HW3.out).oth, HR3.out.2, by have := rem_most HQ.out.1.ris k; omega⟩, grown_tr (below_grown HW3.out _) HG34.out, fun h => h.rem⟩
end Go.Proofs.Ytnagknlfboadkaa.Oct

/- Layer 7 (tree): Get; the keys' sizes stay bounded. -/
namespace Go.Proofs.Ytnagknlfboadkaa.Oct
open Go.RowKit

set_option maxRecDepth 100000 in
set_option maxHeartbeats 1000000 in
theorem playk_get (w : World) (m : Nat) (a : Option Addr) (n cap : Nat) (L : List Pr) (k v : ByteArray) (N K : Int) (h0 : ¬ K = 0) (h1 : ¬ K = 1) (h3 : ¬ K = 3) (h5 : ¬ K = 5) (h6 : ¬ K = 6) (hT : Tr w m L) (hR : RdP w a n L) (hC : Cap a n cap) (hn : L.length ≤ 90000) :
    Calls Try.prog 14 #[.pointer (some ⟨m, 0, none⟩), .slice a n cap, .agg #[.int .i64 K, .string k, .string v, .int .i64 N]] w (PlayK w m L) := by
  have hml := hT.lt
  have hnL : n = L.length := hR.1.symm
  have HQ : Hid (Tr w m L ∧ RdP w a n L ∧ Cap a n cap ∧ L.length ≤ 90000 ∧ n = L.length) := ⟨hT, hR, hC, hn, hnL⟩
  have HB1 : Hid (Below w.heap.size w (w.alloc (.cells #[.int .i64 K, .string k, .string v, .int .i64 N] 29))) := (Below.refl _ w).alloc (Nat.le_refl _) _
  have hbx := Blk.new w #[.int .i64 K, .string k, .string v, .int .i64 N] 29
  have HK : Hid (∀ W, (w.alloc (.cells #[.int .i64 K, .string k, .string v, .int .i64 N] 29)).grownBy W (some m) → W.cell? ⟨w.heap.size, 0, none⟩ = some (.int .i64 K) ∧ W.cell? ⟨w.heap.size, 1, none⟩ = some (.string k) ∧ W.cell? ⟨w.heap.size, 2, none⟩ = some (.string v)) := fun W hW =>
    ⟨hW.cell (hbx.cell (i := 0) rfl) (by simp; omega), hW.cell (hbx.cell (i := 1) rfl) (by simp; omega), hW.cell (hbx.cell (i := 2) rfl) (by simp; omega)⟩
  have d1 := hbx.cell (i := 1) rfl
  clear hT hR hC hn hnL hbx
  go_enter Try.func14, Try.ntmps14
  go_wp2_with fail
  obtain ⟨w1, hw1⟩ : ∃ w1, w.alloc (.cells #[.int .i64 K, .string k, .string v, .int .i64 N] 29) = w1 := ⟨_, rfl⟩
  rw [hw1] at HB1 HK d1 ⊢
  refine (rget_is w1 a n cap L k (HQ.out.2.1.below HB1.out (Nat.le_refl _)) HQ.out.1.ris (by have := HQ.out; omega)).mono ?_
  rintro e w2 ⟨rfl, HB2⟩
  have HG2 : Hid (w1.grownBy w2 (some m)) := below_grown HB2.out _
  have HW2 : Hid (Below w.heap.size w w2) := HB1.out.trans (HB2.out.mono HB1.out.size)
  obtain ⟨k0, k1, k2⟩ := HK.out w2 HG2.out
  generalize hE : (!(eqs k L).isEmpty) = E
  generalize hV : gv (eqs k L) = V
  have HE : Hid ((!(eqs k L).isEmpty) = E ∧ gv (eqs k L) = V) := ⟨hE, hV⟩
  have H21 : Hid (Calls Try.prog 21 #[.pointer (some ⟨m, 0, none⟩), .string k] w2 fun e w' => e = .returned (.tuple #[.string V, .bool E]) ∧ Hid (Below w2.heap.size w2 w')) := by
    show Calls _ _ _ _ _
    rw [← HE.out.1, ← HE.out.2]
    exact tget w2 m L k (HQ.out.1.below HW2.out)
  clear d1 hE hV hw1
  go_wp2_with (go_at_call 21; (with_reducible refine Calls.mono H21.out ?_); rintro e w3 ⟨rfl, HB3⟩)
  go_ret2
  have hB := HW2.out.trans (HB3.out.mono HW2.out.size)
  exact ⟨a, n, cap, L, by simp, ⟨HQ.out.1.below hB, HQ.out.2.1.below hB (Nat.le_refl _), HQ.out.2.2.1, by omega⟩, below_grown hB _, fun h => h⟩
end Go.Proofs.Ytnagknlfboadkaa.Oct

/- Layer 7 (tree): Scan; the keys' sizes stay bounded. -/
namespace Go.Proofs.Ytnagknlfboadkaa.Oct
open Go.RowKit

set_option maxRecDepth 100000 in
set_option maxHeartbeats 1000000 in
theorem playk_scan (w : World) (m : Nat) (a : Option Addr) (n cap : Nat) (L : List Pr) (k v : ByteArray) (N : Int) (hT : Tr w m L) (hR : RdP w a n L) (hC : Cap a n cap) (hn : L.length ≤ 90000) :
    Calls Try.prog 14 #[.pointer (some ⟨m, 0, none⟩), .slice a n cap, .agg #[.int .i64 3, .string k, .string v, .int .i64 N]] w (PlayK w m L) := by
  have hml := hT.lt
  have hnL : n = L.length := hR.1.symm
  have HQ : Hid (Tr w m L ∧ RdP w a n L ∧ Cap a n cap ∧ L.length ≤ 90000 ∧ n = L.length) := ⟨hT, hR, hC, hn, hnL⟩
  have HB1 : Hid (Below w.heap.size w (w.alloc (.cells #[.int .i64 3, .string k, .string v, .int .i64 N] 29))) := (Below.refl _ w).alloc (Nat.le_refl _) _
  have hbx := Blk.new w #[.int .i64 3, .string k, .string v, .int .i64 N] 29
  have HK : Hid (∀ W, (w.alloc (.cells #[.int .i64 3, .string k, .string v, .int .i64 N] 29)).grownBy W (some m) → W.cell? ⟨w.heap.size, 0, none⟩ = some (.int .i64 3) ∧ W.cell? ⟨w.heap.size, 1, none⟩ = some (.string k) ∧ W.cell? ⟨w.heap.size, 2, none⟩ = some (.string v)) := fun W hW =>
    ⟨hW.cell (hbx.cell (i := 0) rfl) (by simp; omega), hW.cell (hbx.cell (i := 1) rfl) (by simp; omega), hW.cell (hbx.cell (i := 2) rfl) (by simp; omega)⟩
  have d1 := hbx.cell (i := 1) rfl
  clear hT hR hC hn hnL hbx
  go_enter Try.func14, Try.ntmps14
  go_wp2_with fail
  obtain ⟨w1, hw1⟩ : ∃ w1, w.alloc (.cells #[.int .i64 3, .string k, .string v, .int .i64 N] 29) = w1 := ⟨_, rfl⟩
  rw [hw1] at HB1 HK d1 ⊢
  refine (rget_is w1 a n cap L k (HQ.out.2.1.below HB1.out (Nat.le_refl _)) HQ.out.1.ris (by have := HQ.out; omega)).mono ?_
  rintro e w2 ⟨rfl, HB2⟩
  have HG2 : Hid (w1.grownBy w2 (some m)) := below_grown HB2.out _
  have HW2 : Hid (Below w.heap.size w w2) := HB1.out.trans (HB2.out.mono HB1.out.size)
  obtain ⟨k0, k1, k2⟩ := HK.out w2 HG2.out
  have HG2d : Hid (w1.grownBy w2.drew (some m)) := below_grown HB2.out.drew _
  have HS1 : Hid (m < w1.heap.size) := by show _ < _; have := HB1.out.size; omega
  have H13 : Hid (Calls Try.prog 13 #[.pointer (some ⟨m, 0, none⟩), .string k, .string v] w2.drew fun e w' => ∃ (a' : Option Addr) (n' c' : Nat), e = .returned (.slice a' n' c') ∧ Hid (RdP w' a' n' (L.filter (inS k v)) ∧ n' ≤ 90000) ∧ Hid (Below w2.drew.heap.size w2.drew w')) := by
    refine Calls.mono (told_all w2.drew m L k v (HQ.out.1.below HW2.out.drew) (by have := HQ.out; omega)) ?_
    rintro e w' ⟨u, rfl, hO, hB⟩
    have hO2 : Bs 40 2 w2.drew.heap.size w' u (scanT k v L).length ((scanT k v L).flatMap pc) := .inr ⟨fun u hu => by
      obtain ⟨x, _, hx⟩ := List.mem_flatMap.1 hu
      simp only [pc, List.mem_cons, List.not_mem_nil, or_false] at hx
      rcases hx with rfl | rfl <;> rfl, hO.out⟩
    obtain ⟨a', c', rfl, _, h2, _⟩ := hO2.read
    refine ⟨a', _, c', rfl, ⟨?_, ?_⟩, hB⟩
    · rw [← scanT_is HQ.out.1.ris]; exact h2.toP
    · rw [scanT_is HQ.out.1.ris]; have := List.length_filter_le (inS k v) L; have := HQ.out.2.2.2.1; omega
  clear d1 hw1
  go_wp2_with fail
  go_region_held_law (fun W => W.cell? ⟨w.heap.size, 1, none⟩ = some (.string k) ∧ W.cell? ⟨w.heap.size, 2, none⟩ = some (.string v))
    (first | with_reducible exact (HK.out _ HG2d.out).2 | with_reducible exact (HK.out _ HG3.out).2 | with_reducible exact (HK.out _ HG4.out).2 | with_reducible exact (HK.out _ HG5.out).2)
    (first
    | (go_at_call 13; (with_reducible refine Calls.mono H13.out ?_); rintro e w3 ⟨a3, n3, cap3, rfl, HR3, hB3⟩; have HW3 : Hid (Below w.heap.size w w3) := HW2.out.drew.trans (hB3.out.mono HW2.out.size); have HG3 : Hid (w1.grownBy w3 (some m)) := grown_tr HG2d.out (below_grown hB3.out _); have H16 : Hid (Calls Try.prog 16 #[.slice a n cap, .string k, .string v] w3 (Rows w3 (L.filter (inS k v)))) := rscan_is w3 a n cap L k v (HQ.out.2.1.below HW3.out (Nat.le_refl _)) (by have := HQ.out; omega); clear hB3)
    | (go_at_call 16; (with_reducible refine Calls.mono H16.out ?_); rintro e w4 ⟨a4, n4, cap4, rfl, HR4, hB4⟩; have HW4 : Hid (Below w.heap.size w w4) := HW3.out.trans (hB4.out.mono HW3.out.size); have HG4 : Hid (w1.grownBy w4 (some m)) := grown_tr HG3.out (below_grown hB4.out _); have H12 : Hid (Calls Try.prog 12 #[.slice a3 n3 cap3, .slice a4 n4 cap4] w4 fun e w' => e = .returned (.bool true) ∧ Hid (Below w4.heap.size w4 w')) := (by show Calls _ _ _ _ _; rw [← sameP_yes (rfl : L.filter (inS k v) = L.filter (inS k v))]; exact same_any w4 a3 n3 cap3 _ a4 n4 cap4 _ (HR3.out.1.below hB4.out (Nat.le_refl _)) HR4.out.1 (by have := HR3.out.2; omega) (by have := HR4.out.1.1; have := HR3.out.1.1; have := HR3.out.2; omega)); clear hB4)
    | (go_at_call 12; (with_reducible refine Calls.mono H12.out ?_); rintro e w5 ⟨rfl, hB5⟩; have HW5 : Hid (Below w.heap.size w w5) := HW4.out.trans (hB5.out.mono HW4.out.size); have HG5 : Hid (w1.grownBy w5 (some m)) := grown_tr HG4.out (below_grown hB5.out _); clear hB5))
  go_wp2
  go_ret2
  exact ⟨a, n, cap, L, by simp, ⟨HQ.out.1.below HW5.out, HQ.out.2.1.below HW5.out (Nat.le_refl _), HQ.out.2.2.1, by omega⟩, below_grown HW5.out _, fun h => h⟩
end Go.Proofs.Ytnagknlfboadkaa.Oct

/- Layer 7 (tree): many Puts; the keys' sizes stay bounded. -/
namespace Go.Proofs.Ytnagknlfboadkaa.Oct
open Go.RowKit

set_option maxRecDepth 100000 in
set_option maxHeartbeats 1000000 in
theorem playk_puts (w : World) (m : Nat) (a : Option Addr) (n cap : Nat) (L : List Pr) (k v : ByteArray) (N : Int) (hT : Tr w m L) (hR : RdP w a n L) (hC : Cap a n cap) (hk : k.size ≤ 100000) (hn : L.length ≤ 90000) :
    Calls Try.prog 14 #[.pointer (some ⟨m, 0, none⟩), .slice a n cap, .agg #[.int .i64 5, .string k, .string v, .int .i64 N]] w (PlayK w m L) := by
  have hml := hT.lt
  have hnL : n = L.length := hR.1.symm
  have HQ : Hid (Tr w m L ∧ RdP w a n L ∧ Cap a n cap ∧ L.length ≤ 90000 ∧ n = L.length) := ⟨hT, hR, hC, hn, hnL⟩
  have HB1 : Hid (Below w.heap.size w (w.alloc (.cells #[.int .i64 5, .string k, .string v, .int .i64 N] 29))) := (Below.refl _ w).alloc (Nat.le_refl _) _
  have hbx := Blk.new w #[.int .i64 5, .string k, .string v, .int .i64 N] 29
  have HK : Hid (∀ W, (w.alloc (.cells #[.int .i64 5, .string k, .string v, .int .i64 N] 29)).grownBy W (some m) → W.cell? ⟨w.heap.size, 0, none⟩ = some (.int .i64 5) ∧ W.cell? ⟨w.heap.size, 1, none⟩ = some (.string k) ∧ W.cell? ⟨w.heap.size, 2, none⟩ = some (.string v) ∧ W.cell? ⟨w.heap.size, 3, none⟩ = some (.int .i64 N)) := fun W hW =>
    ⟨hW.cell (hbx.cell (i := 0) rfl) (by simp; omega), hW.cell (hbx.cell (i := 1) rfl) (by simp; omega), hW.cell (hbx.cell (i := 2) rfl) (by simp; omega), hW.cell (hbx.cell (i := 3) rfl) (by simp; omega)⟩
  have d1 := hbx.cell (i := 1) rfl
  clear hT hR hC hn hnL hbx
  go_enter Try.func14, Try.ntmps14
  go_wp2_with fail
  obtain ⟨w1, hw1⟩ : ∃ w1, w.alloc (.cells #[.int .i64 5, .string k, .string v, .int .i64 N] 29) = w1 := ⟨_, rfl⟩
  rw [hw1] at HB1 HK d1 ⊢
  refine (rget_is w1 a n cap L k (HQ.out.2.1.below HB1.out (Nat.le_refl _)) HQ.out.1.ris (by have := HQ.out; omega)).mono ?_
  rintro e w2 ⟨rfl, HB2⟩
  have HG2 : Hid (w1.grownBy w2 (some m)) := below_grown HB2.out _
  have HW2 : Hid (Below w.heap.size w w2) := HB1.out.trans (HB2.out.mono HB1.out.size)
  obtain ⟨k0, k1, k2, k3⟩ := HK.out w2 HG2.out
  have HKS : Hid (k.size ≤ 100000) := hk
  generalize (!(eqs k L).isEmpty) = E0
  generalize gv (eqs k L) = V0
  clear d1 hw1 hk
  go_wp2_with fail
  clear k0 k1 k2 k3
  go_loopw [10, 1] (fun u l wr => ∃ (i : Nat) (a' : Option Addr) (n' c' : Nat) (L' : List Pr), u = .int .i64 (i : Int) ∧ l = .slice a' n' c' ∧ Hid (i ≤ 60 ∧ L'.length ≤ L.length + i) ∧ Hid (Tr wr m L' ∧ RdP wr a' n' L' ∧ Cap a' n' c') ∧ Hid (w1.grownBy wr (some m)) ∧ Hid (w.grownBy wr (some m)) ∧ Hid (KeyOk L → KeyOk L')) (fun u _ _ => 61 - (intOf u).toNat)
  case atStart => exact ⟨0, a, n, cap, L, rfl, rfl, ⟨by omega, by omega⟩, ⟨HQ.out.1.below HW2.out, HQ.out.2.1.below HW2.out (Nat.le_refl _), HQ.out.2.2.1⟩, HG2.out, below_grown HW2.out _, fun h => h⟩
  case round =>
    obtain ⟨i, a', n', c', L', rfl, rfl, HI, HT, HG, HGW, HKO⟩ := hrel
    obtain ⟨k0, k1, k2, k3⟩ := HK.out wr HG.out
    by_cases hi : (i : Int) < N
    · by_cases h60 : i < 60
      · have q0 : (i : Int) < 60 := by omega
        have q1 : (0 : Int) ≤ (i : Int) := by omega
        have HL60 : Hid (i < 60) := h60
        have H26 : Hid (Calls Try.prog 26 #[.string k, .int .i64 ((i : Int) * 7 % 60)] wr fun e w' => e = .returned (.string (numK k (i * 7 % 60))) ∧ Hid (Below wr.heap.size wr w')) := by
          show Calls _ _ _ _ _
          rw [show (i : Int) * 7 % 60 = ((i * 7 % 60 : Nat) : Int) by omega]
          exact number_is wr k (i * 7 % 60) (Nat.mod_lt _ (by omega)) HKS.out
        have HNK : Hid ((numK k (i * 7 % 60)).size ≤ 100010) := numK_size k _ HKS.out
        generalize numK k (i * 7 % 60) = kk at *
        have HRS : Hid (Ris L' ∧ n' = L'.length ∧ L'.length ≤ 95000) := ⟨HT.out.1.ris, HT.out.2.1.1.symm, by have := HI.out; have := HQ.out; omega⟩
        have H23 : Hid (∀ W, Below wr.heap.size wr W → Calls Try.prog 23 #[.slice a' n' c', .string kk] W fun e w' => e = .returned (.tuple #[.string (gv (eqs kk L')), .bool (!(eqs kk L').isEmpty)]) ∧ Hid (Below W.heap.size W w')) := fun W hW => rget_is W a' n' c' L' kk (HT.out.2.1.below hW (Nat.le_refl _)) HRS.out.1 (by have := HRS.out; omega)
        have H19 : Hid (∀ W, Below wr.heap.size wr W → Calls Try.prog 19 #[.pointer (some ⟨m, 0, none⟩), .string kk, .string v] W fun e w' => e = .returned (.bool (!(eqs kk L').isEmpty)) ∧ Hid (Tr w' m (insP L' (kk, v))) ∧ Hid (W.grownBy w' (some m))) := fun W hW => tput W m L' (kk, v) (HT.out.1.below hW) (by have := HRS.out; omega)
        generalize (!(eqs kk L').isEmpty) = E1 at *
        generalize gv (eqs kk L') = V1 at *
        go_wp2_with (first
          | (go_at_call 26; (with_reducible refine Calls.mono H26.out ?_); rintro e w3 ⟨rfl, HB3⟩)
          | (go_at_call 23; (with_reducible refine Calls.mono (H23.out w3 HB3.out) ?_); rintro e w4 ⟨rfl, hB4⟩; have HB4 : Hid (Below wr.heap.size wr w4) := HB3.out.trans (hB4.out.mono HB3.out.size); have HG4 : Hid (w1.grownBy w4 (some m)) := grown_tr HG.out (below_grown HB4.out _); obtain ⟨l0, l1, l2, l3⟩ := HK.out w4 HG4.out; clear hB4)
          | (go_at_call 19; (with_reducible refine Calls.mono (H19.out w4 HB4.out) ?_); rintro e w5 ⟨rfl, HT5, HG45⟩; have HG5 : Hid (w1.grownBy w5 (some m)) := grown_tr HG4.out HG45.out; obtain ⟨m0, m1, m2, m3⟩ := HK.out w5 HG5.out; have H24 : Hid (Calls Try.prog 24 #[.slice a' n' c', .string kk, .string v] w5 (Rows w5 (insP L' (kk, v)))) := rput_is w5 a' n' c' L' (kk, v) ((HT.out.2.1.below HB4.out (Nat.le_refl _)).oth HG45.out (HT.out.1.below HB4.out).oth) HT.out.2.2 HRS.out.1 (by have := HRS.out; omega))
          | (go_at_call 24; (with_reducible refine Calls.mono H24.out ?_); rintro e w6 ⟨a6, n6, c6, rfl, HR6, HB6⟩))
        go_roundw
        case rel => exact ⟨i + 1, a6, n6, c6, insP L' (kk, v), by simp, rfl, ⟨by have := HL60.out; omega, by have := ins_most HRS.out.1 (kk, v); have := HI.out; omega⟩, ⟨HT5.out.below HB6.out, HR6.out⟩, grown_tr HG5.out (below_grown HB6.out _), grown_tr (grown_tr (grown_tr HGW.out (below_grown HB4.out _)) HG45.out) (below_grown HB6.out _), fun h => (HKO.out h).ins HNK.out⟩
        case measure => have := HL60.out; simp [intOf]; omega
      · have q0 : ¬ (i : Int) < 60 := by omega
        go_wp2
        go_ret2
        exact ⟨a', n', c', L', by simp, ⟨HT.out.1, HT.out.2.1, HT.out.2.2, by have := HI.out; omega⟩, HGW, HKO⟩
    · go_wp2
      go_ret2
      exact ⟨a', n', c', L', by simp, ⟨HT.out.1, HT.out.2.1, HT.out.2.2, by have := HI.out; omega⟩, HGW, HKO⟩
end Go.Proofs.Ytnagknlfboadkaa.Oct

/- Layer 7 (tree): many Dels; the keys' sizes stay bounded. -/
namespace Go.Proofs.Ytnagknlfboadkaa.Oct
open Go.RowKit

set_option maxRecDepth 100000 in
set_option maxHeartbeats 1000000 in
theorem playk_dels (w : World) (m : Nat) (a : Option Addr) (n cap : Nat) (L : List Pr) (k v : ByteArray) (N : Int) (hT : Tr w m L) (hR : RdP w a n L) (hC : Cap a n cap) (hk : k.size ≤ 100000) (hn : L.length ≤ 90000) :
    Calls Try.prog 14 #[.pointer (some ⟨m, 0, none⟩), .slice a n cap, .agg #[.int .i64 6, .string k, .string v, .int .i64 N]] w (PlayK w m L) := by
  have hml := hT.lt
  have hnL : n = L.length := hR.1.symm
  have HQ : Hid (Tr w m L ∧ RdP w a n L ∧ Cap a n cap ∧ L.length ≤ 90000 ∧ n = L.length) := ⟨hT, hR, hC, hn, hnL⟩
  have HB1 : Hid (Below w.heap.size w (w.alloc (.cells #[.int .i64 6, .string k, .string v, .int .i64 N] 29))) := (Below.refl _ w).alloc (Nat.le_refl _) _
  have hbx := Blk.new w #[.int .i64 6, .string k, .string v, .int .i64 N] 29
  have HK : Hid (∀ W, (w.alloc (.cells #[.int .i64 6, .string k, .string v, .int .i64 N] 29)).grownBy W (some m) → W.cell? ⟨w.heap.size, 0, none⟩ = some (.int .i64 6) ∧ W.cell? ⟨w.heap.size, 1, none⟩ = some (.string k) ∧ W.cell? ⟨w.heap.size, 2, none⟩ = some (.string v) ∧ W.cell? ⟨w.heap.size, 3, none⟩ = some (.int .i64 N)) := fun W hW =>
    ⟨hW.cell (hbx.cell (i := 0) rfl) (by simp; omega), hW.cell (hbx.cell (i := 1) rfl) (by simp; omega), hW.cell (hbx.cell (i := 2) rfl) (by simp; omega), hW.cell (hbx.cell (i := 3) rfl) (by simp; omega)⟩
  have d1 := hbx.cell (i := 1) rfl
  clear hT hR hC hn hnL hbx
  go_enter Try.func14, Try.ntmps14
  go_wp2_with fail
  obtain ⟨w1, hw1⟩ : ∃ w1, w.alloc (.cells #[.int .i64 6, .string k, .string v, .int .i64 N] 29) = w1 := ⟨_, rfl⟩
  rw [hw1] at HB1 HK d1 ⊢
  refine (rget_is w1 a n cap L k (HQ.out.2.1.below HB1.out (Nat.le_refl _)) HQ.out.1.ris (by have := HQ.out; omega)).mono ?_
  rintro e w2 ⟨rfl, HB2⟩
  have HG2 : Hid (w1.grownBy w2 (some m)) := below_grown HB2.out _
  have HW2 : Hid (Below w.heap.size w w2) := HB1.out.trans (HB2.out.mono HB1.out.size)
  obtain ⟨k0, k1, k2, k3⟩ := HK.out w2 HG2.out
  have HKS : Hid (k.size ≤ 100000) := hk
  generalize (!(eqs k L).isEmpty) = E0
  generalize gv (eqs k L) = V0
  clear d1 hw1 hk
  go_wp2_with fail
  clear k0 k1 k2 k3
  go_loopw [10, 1] (fun u l wr => ∃ (i : Nat) (a' : Option Addr) (n' c' : Nat) (L' : List Pr), u = .int .i64 (i : Int) ∧ l = .slice a' n' c' ∧ Hid (i ≤ 60 ∧ L'.length ≤ L.length + i) ∧ Hid (Tr wr m L' ∧ RdP wr a' n' L' ∧ Cap a' n' c') ∧ Hid (w1.grownBy wr (some m)) ∧ Hid (w.grownBy wr (some m)) ∧ Hid (KeyOk L → KeyOk L')) (fun u _ _ => 61 - (intOf u).toNat)
  case atStart => exact ⟨0, a, n, cap, L, rfl, rfl, ⟨by omega, by omega⟩, ⟨HQ.out.1.below HW2.out, HQ.out.2.1.below HW2.out (Nat.le_refl _), HQ.out.2.2.1⟩, HG2.out, below_grown HW2.out _, fun h => h⟩
  case round =>
    obtain ⟨i, a', n', c', L', rfl, rfl, HI, HT, HG, HGW, HKO⟩ := hrel
    obtain ⟨k0, k1, k2, k3⟩ := HK.out wr HG.out
    by_cases hi : (i : Int) < N
    · by_cases h60 : i < 60
      · have q0 : (i : Int) < 60 := by omega
        have q1 : (0 : Int) ≤ (i : Int) := by omega
        have HL60 : Hid (i < 60) := h60
        have H26 : Hid (Calls Try.prog 26 #[.string k, .int .i64 ((i : Int) * 7 % 60)] wr fun e w' => e = .returned (.string (numK k (i * 7 % 60))) ∧ Hid (Below wr.heap.size wr w')) := by
          show Calls _ _ _ _ _
          rw [show (i : Int) * 7 % 60 = ((i * 7 % 60 : Nat) : Int) by omega]
          exact number_is wr k (i * 7 % 60) (Nat.mod_lt _ (by omega)) HKS.out
        have HNK : Hid ((numK k (i * 7 % 60)).size ≤ 100010) := numK_size k _ HKS.out
        generalize numK k (i * 7 % 60) = kk at *
        have HRS : Hid (Ris L' ∧ n' = L'.length ∧ L'.length ≤ 95000) := ⟨HT.out.1.ris, HT.out.2.1.1.symm, by have := HI.out; have := HQ.out; omega⟩
        have H23 : Hid (∀ W, Below wr.heap.size wr W → Calls Try.prog 23 #[.slice a' n' c', .string kk] W fun e w' => e = .returned (.tuple #[.string (gv (eqs kk L')), .bool (!(eqs kk L').isEmpty)]) ∧ Hid (Below W.heap.size W w')) := fun W hW => rget_is W a' n' c' L' kk (HT.out.2.1.below hW (Nat.le_refl _)) HRS.out.1 (by have := HRS.out; omega)
        have H18 : Hid (∀ W, Below wr.heap.size wr W → Calls Try.prog 18 #[.pointer (some ⟨m, 0, none⟩), .string kk] W fun e w' => e = .returned (.bool (!(eqs kk L').isEmpty)) ∧ Hid (Tr w' m (remP L' kk)) ∧ Hid (W.grownBy w' (some m))) := fun W hW => tdel W m L' kk (HT.out.1.below hW) (by have := HRS.out; omega)
        generalize (!(eqs kk L').isEmpty) = E1 at *
        generalize gv (eqs kk L') = V1 at *
        go_wp2_with (first
          | (go_at_call 26; (with_reducible refine Calls.mono H26.out ?_); rintro e w3 ⟨rfl, HB3⟩)
          | (go_at_call 23; (with_reducible refine Calls.mono (H23.out w3 HB3.out) ?_); rintro e w4 ⟨rfl, hB4⟩; have HB4 : Hid (Below wr.heap.size wr w4) := HB3.out.trans (hB4.out.mono HB3.out.size); have HG4 : Hid (w1.grownBy w4 (some m)) := grown_tr HG.out (below_grown HB4.out _); obtain ⟨l0, l1, l2, l3⟩ := HK.out w4 HG4.out; clear hB4)
          | (go_at_call 18; (with_reducible refine Calls.mono (H18.out w4 HB4.out) ?_); rintro e w5 ⟨rfl, HT5, HG45⟩; have HG5 : Hid (w1.grownBy w5 (some m)) := grown_tr HG4.out HG45.out; obtain ⟨m0, m1, m2, m3⟩ := HK.out w5 HG5.out; have H25 : Hid (Calls Try.prog 25 #[.slice a' n' c', .string kk] w5 (Rows w5 (remP L' kk))) := rdel_is w5 a' n' c' L' kk ((HT.out.2.1.below HB4.out (Nat.le_refl _)).oth HG45.out (HT.out.1.below HB4.out).oth) HT.out.2.2 HRS.out.1 (by have := HRS.out; omega))
          | (go_at_call 25; (with_reducible refine Calls.mono H25.out ?_); rintro e w6 ⟨a6, n6, c6, rfl, HR6, HB6⟩))
        go_roundw
        case rel => exact ⟨i + 1, a6, n6, c6, remP L' kk, by simp, rfl, ⟨by have := HL60.out; omega, by have := rem_most HRS.out.1 kk; have := HI.out; omega⟩, ⟨HT5.out.below HB6.out, HR6.out⟩, grown_tr HG5.out (below_grown HB6.out _), grown_tr (grown_tr (grown_tr HGW.out (below_grown HB4.out _)) HG45.out) (below_grown HB6.out _), fun h => (HKO.out h).rem⟩
        case measure => have := HL60.out; simp [intOf]; omega
      · have q0 : ¬ (i : Int) < 60 := by omega
        go_wp2
        go_ret2
        exact ⟨a', n', c', L', by simp, ⟨HT.out.1, HT.out.2.1, HT.out.2.2, by have := HI.out; omega⟩, HGW, HKO⟩
    · go_wp2
      go_ret2
      exact ⟨a', n', c', L', by simp, ⟨HT.out.1, HT.out.2.1, HT.out.2.2, by have := HI.out; omega⟩, HGW, HKO⟩
end Go.Proofs.Ytnagknlfboadkaa.Oct

/- Layer 7 (tree): a call of both, whatever it is; the keys' sizes stay bounded. -/
namespace Go.Proofs.Ytnagknlfboadkaa.Oct
open Go.RowKit

/-- a call of both, whatever it is -/
theorem playk_is (w : World) (m : Nat) (a : Option Addr) (n cap : Nat) (L : List Pr) (x : ActV) (hT : Tr w m L) (hR : RdP w a n L) (hC : Cap a n cap) (hk : x.key.size ≤ 100000) (hn : L.length ≤ 90000) :
    Calls Try.prog 14 #[.pointer (some ⟨m, 0, none⟩), .slice a n cap, .agg #[.int .i64 x.kind, .string x.key, .string x.val, .int .i64 x.n]] w (PlayK w m L) := by
  obtain ⟨K, k, v, N⟩ := x
  by_cases h0 : K = 0
  · subst h0; exact playk_put w m a n cap L k v N hT hR hC hk hn
  by_cases h1 : K = 1
  · subst h1; exact playk_del w m a n cap L k v N hT hR hC hn
  by_cases h3 : K = 3
  · subst h3; exact playk_scan w m a n cap L k v N hT hR hC hn
  by_cases h5 : K = 5
  · subst h5; exact playk_puts w m a n cap L k v N hT hR hC hk hn
  by_cases h6 : K = 6
  · subst h6; exact playk_dels w m a n cap L k v N hT hR hC hk hn
  · exact playk_get w m a n cap L k v N K h0 h1 h3 h5 h6 hT hR hC hn
end Go.Proofs.Ytnagknlfboadkaa.Oct

/- Layer 7 (tree): are calls few enough? -/
namespace Go.Proofs.Ytnagknlfboadkaa.Oct
open Go.RowKit

/-- what 'few' answers -/
def FewP (w : World) (len : Nat) (l : List ActV) (e : Ending) (w' : World) : Prop := ∃ b : Bool, e = .returned (.bool b) ∧ Hid (b = true → len ≤ 400 ∧ ∀ x ∈ l, x.key.size ≤ 100000) ∧ Hid (Below w.heap.size w w')

set_option maxRecDepth 100000 in
set_option maxHeartbeats 1000000 in
theorem few_is (w : World) (a : Option Addr) (len cap : Nat) (l : List ActV) (h : ArgA w a len cap l) :
    Calls Try.prog 8 #[.slice a len cap] w (FewP w len l) := by
  have HA : Hid (ArgA w a len cap l) := h
  clear h
  go_enter Try.func8, Try.ntmps8
  go_wp2
  go_loopw [8, 3] (fun u s wr => ∃ (i t : Nat), u = .int .i64 (i : Int) ∧ s = .int .i64 (t : Int) ∧ Hid (i ≤ len ∧ i ≤ t ∧ t ≤ 400 ∧ ∀ j x, j < i → l[j]? = some x → x.key.size ≤ 100000) ∧ Hid (Below w.heap.size w wr)) (fun u _ _ => len - (intOf u).toNat)
  case atStart => exact ⟨0, 0, rfl, rfl, ⟨Nat.zero_le _, Nat.le_refl _, by omega, fun j x hj => absurd hj (by omega)⟩, Below.refl _ _⟩
  case round =>
    obtain ⟨i, t, rfl, rfl, HI, HB⟩ := hrel
    by_cases hi : i < len
    · obtain ⟨x, hx⟩ : ∃ x, l[i]? = some x := ⟨_, List.getElem?_eq_getElem (by rw [HA.out.1]; exact hi)⟩
      obtain ⟨b, off, rfl, hbl, hat⟩ := HA.out.2.2.2 (by omega)
      obtain ⟨c0, c1, c2, c3, s1, s2⟩ := (hat i x hx)
      have d0 := (HB.out.cell (p := ⟨b, off + i * 4, none⟩) hbl).trans c0
      have d1 := (HB.out.cell (p := ⟨b, off + i * 4 + 1, none⟩) hbl).trans c1
      have d2 := (HB.out.cell (p := ⟨b, off + i * 4 + 2, none⟩) hbl).trans c2
      have d3 := (HB.out.cell (p := ⟨b, off + i * 4 + 3, none⟩) hbl).trans c3
      have HX : Hid (l[i]? = some x ∧ i < len) := ⟨hx, hi⟩
      have q1 : (i : Int) < (len : Int) := by omega
      have q2 : (t : Int) ≤ 400 := by have := HI.out; omega
      have q3 : (x.key.size : Int) ≤ 140737488355328 := by omega
      have q4 : (x.val.size : Int) ≤ 140737488355328 := by omega
      have q5 : (len : Int) ≤ 9223372036854775807 := by have h1 := HA.out.2.1; have h2 := HA.out.2.2.1; unfold maxLen at h2; omega
      clear c0 c1 c2 c3 hat hx hi hbl s1 s2
      obtain ⟨kind, key, val, nn⟩ := x
      dsimp only at d0 d1 d2 d3 q3 q4
      obtain ⟨kl, hkl⟩ : ∃ kl, key.size = kl := ⟨_, rfl⟩
      obtain ⟨vl, hvl⟩ : ∃ vl, val.size = vl := ⟨_, rfl⟩
      rw [hkl] at q3
      rw [hvl] at q4
      by_cases hs : t + (1 + (kl + vl) / 50) ≤ 400
      · have q6 : ¬ (t : Int) + (1 + ((kl : Int) + (vl : Int)) / 50) > 400 := by omega
        have q7 : ¬ 400 < (t : Int) + (1 + ((kl : Int) + (vl : Int)) / 50) := by omega
        have HS : Hid (t + (1 + (kl + vl) / 50) ≤ 400 ∧ key.size = kl) := ⟨hs, hkl⟩
        go_wp2
        go_roundw
        case rel =>
          refine ⟨i + 1, t + (1 + (kl + vl) / 50), by simp, by simp, ⟨HX.out.2, by have := HI.out; omega, HS.out.1, fun j x hj hx => ?_⟩, HB.out.alloc HB.out.size _⟩
          by_cases hji : j = i
          · subst hji
            rw [HX.out.1] at hx
            cases hx
            show key.size ≤ _
            have := HS.out; omega
          · exact HI.out.2.2.2 j x (by omega) hx
        case measure => have := HX.out; simp [intOf]; omega
      · have q6 : 400 < (t : Int) + (1 + ((kl : Int) + (vl : Int)) / 50) := by omega
        go_wp2
        go_ret
        exact ⟨false, rfl, (fun h => by cases h), HB.out.alloc HB.out.size _⟩
    · have q1 : ¬ (i : Int) < (len : Int) := by omega
      go_wp2
      go_ret
      refine ⟨true, rfl, (fun _ => ⟨by have := HI.out; omega, fun x hx => ?_⟩), HB⟩
      obtain ⟨j, hj, rfl⟩ := List.mem_iff_getElem.1 hx
      exact HI.out.2.2.2 j _ (by rw [HA.out.1] at hj; omega) (List.getElem?_eq_getElem hj)
end Go.Proofs.Ytnagknlfboadkaa.Oct

/- Layer 7 (tree): the law TreeShallow. -/
namespace Go.Proofs.Ytnagknlfboadkaa.Oct
open Go.RowKit

theorem below_grownBy {B m : Nat} {w a b : World} (h : Below B w a) (hg : a.grownBy b (some m)) (hm : B ≤ m) (hB : B ≤ w.heap.size) : Below B w b :=
  ⟨hg.os.trans h.os, hg.tape.trans h.tape, hg.output.trans h.output, Nat.le_trans h.size hg.size, fun k hk => (hg.block k (Nat.lt_of_lt_of_le hk (Nat.le_trans hB h.size)) (by simp; omega)).trans (h.block k hk)⟩
/-- the depths that so many keys may have -/
theorem depths {D n : Nat} (h : DepthOk D n) (hn : n ≤ 24000) : (D = 0 ∧ n = 0) ∨ (D = 1 ∧ 1 ≤ n ∧ n ≤ 7) ∨ (D = 2 ∧ 7 ≤ n ∧ n ≤ 63) ∨ (D = 3 ∧ 31 ≤ n ∧ n ≤ 511) ∨ (D = 4 ∧ 127 ≤ n ∧ n ≤ 4095) ∨ (D = 5 ∧ 511 ≤ n ∧ n ≤ 32767) ∨ (D = 6 ∧ 2047 ≤ n ∧ n ≤ 262143) ∨ (D = 7 ∧ 8191 ≤ n ∧ n ≤ 2097151) := by
  rcases h with ⟨h1, h2⟩ | ⟨h1, h2, h3, h4⟩
  · exact .inl ⟨h1, h2⟩
  · have hD : D ≤ 7 := by
      refine Nat.le_of_not_lt fun hc => ?_
      have : 4 ^ 7 ≤ 4 ^ (D - 1) := Nat.pow_le_pow_right (by omega) (by omega)
      have e : (4 : Nat) ^ 7 = 16384 := by decide
      omega
    have hc : D = 1 ∨ D = 2 ∨ D = 3 ∨ D = 4 ∨ D = 5 ∨ D = 6 ∨ D = 7 := by omega
    rcases hc with rfl | rfl | rfl | rfl | rfl | rfl | rfl <;> simp at h3 h4 <;> omega

set_option maxRecDepth 100000 in
set_option maxHeartbeats 4000000 in
theorem shallow_law (l : List ActV) (a : Option Addr) (len cap : Nat) (w : World) (h : ArgA w a len cap l) :
    Calls Try.prog 5 #[.slice a len cap] w fun e w' => e = .returned (.bool true) ∧ Below w.heap.size w w' := by
  have HA : Hid (ArgA w a len cap l) := h
  clear h
  go_enter Try.func5, Try.ntmps5
  go_wp2_with fail
  refine (few_is w a len cap l HA.out).mono ?_
  rintro e w1 ⟨b, rfl, HF, HB1⟩
  cases b with
  | false =>
    go_wp2_with (go_at_call 9; refine (lives_is w1).mono ?_; rintro e w2 ⟨rfl, HB2⟩)
    go_ret
    exact ⟨rfl, HB1.out.trans (HB2.out.mono HB1.out.size)⟩
  | true =>
    have HL : Hid (len ≤ 400 ∧ ∀ x ∈ l, x.key.size ≤ 100000) := HF.out rfl
    clear HF
    go_wp2_with (go_at_call 10; refine (new_is w1).mono ?_; rintro e w2 ⟨rfl, HM2, HB2⟩)
    have HW2 : Hid (Below w.heap.size w w2) := HB1.out.trans (HB2.out.mono HB1.out.size)
    have HMM : Hid (w.heap.size ≤ w1.heap.size) := HB1.out.size
    generalize w1.heap.size = m at *
    go_loopw [16, 4] (fun u lv wr => ∃ (i : Nat) (a' : Option Addr) (n' c' : Nat) (L' : List Pr), u = .int .i64 (i : Int) ∧ lv = .slice a' n' c' ∧ Hid (i ≤ len ∧ L'.length ≤ i * 60) ∧ Hid (Tr wr m L' ∧ RdP wr a' n' L' ∧ Cap a' n' c') ∧ Hid (Below w.heap.size w wr)) (fun u _ _ => len - (intOf u).toNat)
    case atStart => exact ⟨0, none, 0, 0, [], rfl, rfl, ⟨Nat.zero_le _, Nat.le_refl _⟩, ⟨.inl ⟨HM2.out, rfl⟩, ⟨rfl, fun h => absurd h (by omega)⟩, Nat.le_refl _, .inl ⟨rfl, rfl⟩⟩, HW2.out⟩
    case round =>
      obtain ⟨i, a', n', c', L', rfl, rfl, HI, HT, HB⟩ := hrel
      by_cases hi : i < len
      · obtain ⟨x, hx⟩ : ∃ x, l[i]? = some x := ⟨_, List.getElem?_eq_getElem (by rw [HA.out.1]; exact hi)⟩
        obtain ⟨bb, off, rfl, hbl, hat⟩ := HA.out.2.2.2 (by omega)
        obtain ⟨c0, c1, c2, c3, s1, s2⟩ := (hat i x hx)
        have d0 := (HB.out.cell (p := ⟨bb, off + i * 4, none⟩) hbl).trans c0
        have d1 := (HB.out.cell (p := ⟨bb, off + i * 4 + 1, none⟩) hbl).trans c1
        have d2 := (HB.out.cell (p := ⟨bb, off + i * 4 + 2, none⟩) hbl).trans c2
        have d3 := (HB.out.cell (p := ⟨bb, off + i * 4 + 3, none⟩) hbl).trans c3
        have HXL : Hid (i < len ∧ x.key.size ≤ 100000) := ⟨hi, HL.out.2 x (List.mem_of_getElem? hx)⟩
        have q1 : (i : Int) < (len : Int) := by omega
        have q5 : (len : Int) ≤ 400 := by have := HL.out.1; omega
        have HB3 : Hid (Below wr.heap.size wr (wr.alloc (.cells #[.int .i64 x.kind, .string x.key, .string x.val, .int .i64 x.n] 29))) := (Below.refl _ wr).alloc (Nat.le_refl _) _
        have HP : Hid (Calls Try.prog 14 #[.pointer (some ⟨m, 0, none⟩), .slice a' n' c', .agg #[.int .i64 x.kind, .string x.key, .string x.val, .int .i64 x.n]] (wr.alloc (.cells #[.int .i64 x.kind, .string x.key, .string x.val, .int .i64 x.n] 29)) (PlayP (wr.alloc (.cells #[.int .i64 x.kind, .string x.key, .string x.val, .int .i64 x.n] 29)) m L')) := play_is _ m a' n' c' L' x (HT.out.1.below HB3.out) (HT.out.2.1.below HB3.out (Nat.le_refl _)) HT.out.2.2 HXL.out.2 (by have := HI.out; have := HL.out.1; omega)
        have HB3w : Hid (Below w.heap.size w (wr.alloc (.cells #[.int .i64 x.kind, .string x.key, .string x.val, .int .i64 x.n] 29))) := HB.out.alloc HB.out.size _
        clear c0 c1 c2 c3 hat hx hi hbl s1 s2 HB3
        obtain ⟨kind, key, val, nn⟩ := x
        dsimp only at d0 d1 d2 d3 HP HB3w
        go_wp2_with (first
          | (go_at_call 14; (with_reducible refine Calls.mono HP.out ?_); rintro e w4 ⟨a4, n4, c4, L4, rfl, HT4, HG4⟩; have HB4 : Hid (Below w.heap.size w w4) := below_grownBy HB3w.out HG4.out HMM.out (Nat.le_refl _); have HN4 : Hid (n4 = L4.length ∧ L4.length ≤ 24000 ∧ L4.length ≤ (i + 1) * 60) := ⟨HT4.out.2.1.1.symm, (by have := HT4.out.2.2.2; have := HI.out; have := HXL.out; have := HL.out.1; omega), (by have := HT4.out.2.2.2; have := HI.out; omega)⟩)
          | (go_at_call 15; refine (tlen w4 m L4 HT4.out.1).mono ?_; rintro e w5 ⟨rfl, rfl⟩)
          | fail)
        refine (tdepth w4 m L4 HT4.out.1 (by have := HN4.out; omega)).mono ?_
        rintro e w5 ⟨D, rfl, HD, rfl⟩
        have hds := depths HD.out HN4.out.2.1
        have hn4 := HN4.out.1
        generalize hNN : L4.length = NN at hds hn4 ⊢
        subst hn4
        clear HD d0 d1 d2 d3 HP
        rcases hds with ⟨rfl, hn0⟩ | ⟨rfl, p1, p2⟩ | ⟨rfl, p1, p2⟩ | ⟨rfl, p1, p2⟩ | ⟨rfl, p1, p2⟩ | ⟨rfl, p1, p2⟩ | ⟨rfl, p1, p2⟩ | ⟨rfl, p1, p2⟩
        · subst hn0
          go_wp2
          go_roundw
          case rel => exact ⟨i + 1, a4, _, c4, L4, by simp, rfl, ⟨HXL.out.1, HN4.out.2.2⟩, ⟨HT4.out.1, HT4.out.2.1, HT4.out.2.2.1⟩, HB4.out⟩
          case measure => have := HXL.out; simp [intOf]; omega
        · have r1 : (1 : Int) ≤ (n4 : Int) := by omega
          have r2 : (n4 : Int) ≤ 7 := by omega
          have r3 : ¬ (n4 : Int) = 0 := by omega
          have r4 : ¬ n4 = 0 := by omega
          go_wp2
          go_roundw
          case rel => exact ⟨i + 1, a4, _, c4, L4, by simp, rfl, ⟨HXL.out.1, HN4.out.2.2⟩, ⟨HT4.out.1, HT4.out.2.1, HT4.out.2.2.1⟩, HB4.out⟩
          case measure => have := HXL.out; simp [intOf]; omega
        · have r1 : (7 : Int) ≤ (n4 : Int) := by omega
          have r2 : (n4 : Int) ≤ 63 := by omega
          have r3 : ¬ (n4 : Int) = 0 := by omega
          have r4 : ¬ n4 = 0 := by omega
          go_wp2
          go_roundw
          case rel => exact ⟨i + 1, a4, _, c4, L4, by simp, rfl, ⟨HXL.out.1, HN4.out.2.2⟩, ⟨HT4.out.1, HT4.out.2.1, HT4.out.2.2.1⟩, HB4.out⟩
          case measure => have := HXL.out; simp [intOf]; omega
        · have r1 : (31 : Int) ≤ (n4 : Int) := by omega
          have r2 : (n4 : Int) ≤ 511 := by omega
          have r3 : ¬ (n4 : Int) = 0 := by omega
          have r4 : ¬ n4 = 0 := by omega
          go_wp2
          go_roundw
          case rel => exact ⟨i + 1, a4, _, c4, L4, by simp, rfl, ⟨HXL.out.1, HN4.out.2.2⟩, ⟨HT4.out.1, HT4.out.2.1, HT4.out.2.2.1⟩, HB4.out⟩
          case measure => have := HXL.out; simp [intOf]; omega
        · have r1 : (127 : Int) ≤ (n4 : Int) := by omega
          have r2 : (n4 : Int) ≤ 4095 := by omega
          have r3 : ¬ (n4 : Int) = 0 := by omega
          have r4 : ¬ n4 = 0 := by omega
          go_wp2
          go_roundw
          case rel => exact ⟨i + 1, a4, _, c4, L4, by simp, rfl, ⟨HXL.out.1, HN4.out.2.2⟩, ⟨HT4.out.1, HT4.out.2.1, HT4.out.2.2.1⟩, HB4.out⟩
          case measure => have := HXL.out; simp [intOf]; omega
        · have r1 : (511 : Int) ≤ (n4 : Int) := by omega
          have r2 : (n4 : Int) ≤ 32767 := by omega
          have r3 : ¬ (n4 : Int) = 0 := by omega
          have r4 : ¬ n4 = 0 := by omega
          go_wp2
          go_roundw
          case rel => exact ⟨i + 1, a4, _, c4, L4, by simp, rfl, ⟨HXL.out.1, HN4.out.2.2⟩, ⟨HT4.out.1, HT4.out.2.1, HT4.out.2.2.1⟩, HB4.out⟩
          case measure => have := HXL.out; simp [intOf]; omega
        · have r1 : (2047 : Int) ≤ (n4 : Int) := by omega
          have r2 : (n4 : Int) ≤ 262143 := by omega
          have r3 : ¬ (n4 : Int) = 0 := by omega
          have r4 : ¬ n4 = 0 := by omega
          go_wp2
          go_roundw
          case rel => exact ⟨i + 1, a4, _, c4, L4, by simp, rfl, ⟨HXL.out.1, HN4.out.2.2⟩, ⟨HT4.out.1, HT4.out.2.1, HT4.out.2.2.1⟩, HB4.out⟩
          case measure => have := HXL.out; simp [intOf]; omega
        · have r1 : (8191 : Int) ≤ (n4 : Int) := by omega
          have r2 : (n4 : Int) ≤ 2097151 := by omega
          have r3 : ¬ (n4 : Int) = 0 := by omega
          have r4 : ¬ n4 = 0 := by omega
          go_wp2
          go_roundw
          case rel => exact ⟨i + 1, a4, _, c4, L4, by simp, rfl, ⟨HXL.out.1, HN4.out.2.2⟩, ⟨HT4.out.1, HT4.out.2.1, HT4.out.2.2.1⟩, HB4.out⟩
          case measure => have := HXL.out; simp [intOf]; omega
      · have q1 : ¬ (i : Int) < (len : Int) := by omega
        go_wp2_with (go_at_call 9; refine (lives_is wr).mono ?_; rintro e w5 ⟨rfl, HB5⟩)
        go_ret
        exact ⟨rfl, HB.out.trans (HB5.out.mono HB.out.size)⟩
end Go.Proofs.Ytnagknlfboadkaa.Oct
