/-
  Layer 7 (tree): the reference's Scan.
-/
import Derived.Test.YtnagknlfboadkaaRefDel
namespace Go.Proofs.Ytnagknlfboadkaa.Oct
open Go.RowKit

/-- a pair that a scan tells -/
def inS (key til : ByteArray) (x : Pr) : Bool := geS x.1 key && okS til x
theorem filter_take_yes {ps : List Pr} {i : Nat} {x : Pr} {p : Pr → Bool} (hx : ps[i]? = some x) (hp : p x = true) : (ps.take (i + 1)).filter p = (ps.take i).filter p ++ [x] := by
  rw [List.take_add_one, List.filter_append, hx]; simp [hp]
theorem filter_take_no {ps : List Pr} {i : Nat} {x : Pr} {p : Pr → Bool} (hx : ps[i]? = some x) (hp : p x = false) : (ps.take (i + 1)).filter p = (ps.take i).filter p := by
  rw [List.take_add_one, List.filter_append, hx]; simp [hp]

set_option maxRecDepth 100000 in
set_option maxHeartbeats 1000000 in
theorem rscan_is (w : World) (a : Option Addr) (n cap : Nat) (ps : List Pr) (key til : ByteArray) (h : RdP w a n ps) (hn : n ≤ 100000) :
    Calls Try.prog 16 #[.slice a n cap, .string key, .string til] w (Rows w (ps.filter (inS key til))) := by
  obtain ⟨i0, hi0, hii⟩ := Option.map_eq_some_iff.1 infoP
  simp only [Prod.mk.injEq] at hii
  have hby : i0.bytes ≤ 64 := by rw [hii.2.2]; omega
  have HR : Hid (RdP w a n ps ∧ n ≤ 100000) := ⟨h, hn⟩
  clear h hn
  go_enter Try.func16, Try.ntmps16
  go_wp2
  go_loopw [8, 7] (fun u v wr => ∃ (i m : Nat) (av : Option Addr) (cv : Nat), u = .int .i64 (i : Int) ∧ v = .slice av m cv ∧ Hid (i ≤ n ∧ m ≤ i) ∧ Hid (Bs 40 2 w.heap.size wr (.slice av m cv) m (((ps.take i).filter (inS key til)).flatMap pc)) ∧ Hid (Below w.heap.size w wr)) (fun u _ _ => n - (intOf u).toNat)
  case atStart => exact ⟨0, 0, none, 0, rfl, rfl, ⟨Nat.zero_le _, Nat.le_refl _⟩, .inl ⟨none, rfl, Rd.nil _ _ _ _, .inl ⟨rfl, rfl⟩⟩, Below.refl _ _⟩
  case round =>
    obtain ⟨i, m, av, cv, rfl, rfl, HI, HO, HB⟩ := hrel
    by_cases hi : i < n
    · obtain ⟨x, hx⟩ : ∃ x, ps[i]? = some x := ⟨_, List.getElem?_eq_getElem (by rw [HR.out.1.1]; exact hi)⟩
      obtain ⟨g, off, rfl, hg1, hc1⟩ := HR.out.1.2 (by omega)
      have a0 : wr.cell? ⟨g, off + i * 2, none⟩ = some (.string x.1) := (HB.out.cell (p := ⟨g, _, none⟩) hg1.lt).trans (hc1 i x hx).1
      have a1 : wr.cell? ⟨g, off + i * 2 + 1, none⟩ = some (.string x.2) := (HB.out.cell (p := ⟨g, _, none⟩) hg1.lt).trans (hc1 i x hx).2
      have q1 : (i : Int) < (n : Int) := by omega
      have q2 : (n : Int) ≤ 100000 := by have := HR.out.2; omega
      have HL : Hid (i < n) := hi
      have YES : Hid (inS key til x = true → (ps.take (i + 1)).filter (inS key til) = (ps.take i).filter (inS key til) ++ [x]) := fun hp => filter_take_yes hx hp
      have NO : Hid (inS key til x = false → (ps.take (i + 1)).filter (inS key til) = (ps.take i).filter (inS key til)) := fun hp => filter_take_no hx hp
      clear hc1 hx hi hg1
      obtain ⟨x1, x2⟩ := x
      cases hg : Op.bytesLess x1.toList key.toList with
      | true =>
        have hno : inS key til (x1, x2) = false := by simp [inS, geS, hg]
        have HNO : Hid ((ps.take (i + 1)).filter (inS key til) = (ps.take i).filter (inS key til)) := NO.out hno
        clear YES NO hno
        go_wp2
        go_roundw
        case rel => exact ⟨i + 1, m, av, cv, by simp, rfl, ⟨HL.out, by have := HI.out; omega⟩, by rw [HNO.out]; exact HO.out, HB⟩
        case measure => have := HL.out; simp [intOf]; omega
      | false =>
        cases he : til.toList.isEmpty with
        | true =>
          have hyes : inS key til (x1, x2) = true := by simp [inS, geS, hg, okS, he]
          have HYES : Hid ((ps.take (i + 1)).filter (inS key til) = (ps.take i).filter (inS key til) ++ [(x1, x2)]) := YES.out hyes
          have he1 : (til.toList == []) = true := by simpa using he
          clear YES NO hyes
          go_wp2_with (at_builtin; refine wpList_append_bs _ rfl (.tmp 35) (.tmp 40) 27 rfl 40 i0 _ 2 w.heap.size Try.underlying27 hi0 hii.1 hii.2.1 hby rfl (by omega) _ _ _ (HO.out.alloc _) (some ⟨wr.heap.size, 0, none⟩) 1 1 ([(x1, x2)].flatMap pc) rfl rfl (one_rd wr (x1, x2)) (by have := HB.out.size; simp; omega) (by have := HI.out; have := HR.out.2; omega) ?_; intro v5 w5 HO5 HB5; have HW5 : Hid (Below w.heap.size w w5) := (HB.out.alloc HB.out.size _).trans HB5.out; obtain ⟨a5, cap5, rfl, _⟩ := HO5.out.read)
          go_roundw
          case rel => exact ⟨i + 1, m + 1, a5, cap5, by simp, rfl, ⟨HL.out, by have := HI.out; omega⟩, by rw [HYES.out, List.flatMap_append]; exact HO5.out, HW5⟩
          case measure => have := HL.out; simp [intOf]; omega
        | false =>
          have he1 : (til.toList == []) = false := by simpa using he
          cases hl : Op.bytesLess x1.toList til.toList with
          | true =>
            have hyes : inS key til (x1, x2) = true := by simp [inS, geS, hg, okS, hl]
            have HYES : Hid ((ps.take (i + 1)).filter (inS key til) = (ps.take i).filter (inS key til) ++ [(x1, x2)]) := YES.out hyes
            clear YES NO hyes
            go_wp2_with (at_builtin; refine wpList_append_bs _ rfl (.tmp 35) (.tmp 40) 27 rfl 40 i0 _ 2 w.heap.size Try.underlying27 hi0 hii.1 hii.2.1 hby rfl (by omega) _ _ _ (HO.out.alloc _) (some ⟨wr.heap.size, 0, none⟩) 1 1 ([(x1, x2)].flatMap pc) rfl rfl (one_rd wr (x1, x2)) (by have := HB.out.size; simp; omega) (by have := HI.out; have := HR.out.2; omega) ?_; intro v5 w5 HO5 HB5; have HW5 : Hid (Below w.heap.size w w5) := (HB.out.alloc HB.out.size _).trans HB5.out; obtain ⟨a5, cap5, rfl, _⟩ := HO5.out.read)
            go_roundw
            case rel => exact ⟨i + 1, m + 1, a5, cap5, by simp, rfl, ⟨HL.out, by have := HI.out; omega⟩, by rw [HYES.out, List.flatMap_append]; exact HO5.out, HW5⟩
            case measure => have := HL.out; simp [intOf]; omega
          | false =>
            have hno : inS key til (x1, x2) = false := by simp [inS, geS, hg, okS, he, hl]
            have HNO : Hid ((ps.take (i + 1)).filter (inS key til) = (ps.take i).filter (inS key til)) := NO.out hno
            clear YES NO hno
            go_wp2
            go_roundw
            case rel => exact ⟨i + 1, m, av, cv, by simp, rfl, ⟨HL.out, by have := HI.out; omega⟩, by rw [HNO.out]; exact HO.out, HB⟩
            case measure => have := HL.out; simp [intOf]; omega
    · have q1 : ¬ (i : Int) < (n : Int) := by omega
      have HALL : Hid (ps.take i = ps) := List.take_of_length_le (by rw [HR.out.1.1]; omega)
      go_wp2
      go_ret
      obtain ⟨a6, c6, e6, h6, h7, h8⟩ := HO.out.read
      rw [HALL.out] at h7
      exact ⟨a6, m, c6, by rw [e6]; rfl, ⟨h7.toP, h6, h8⟩, HB⟩
#print axioms rscan_is
end Go.Proofs.Ytnagknlfboadkaa.Oct
