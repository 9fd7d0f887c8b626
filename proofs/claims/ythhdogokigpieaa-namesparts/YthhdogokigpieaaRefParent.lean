/-
  Layer 9 (names): the reference's 'Parent'.
-/
import Derived.Test.YthhdogokigpieaaCoversLaw
namespace Go.Proofs.Ythhdogokigpieaa.Oct
open Go.RowKit

theorem data_app (a b : ByteArray) : (a ++ b).data.toList = a.data.toList ++ b.data.toList := by rw [ByteArray.data_append, Array.toList_append]
theorem par_no {s : ByteArray} (h : isPath s.data.toList = false) : (par s).data.toList = [] := by
  rw [par, mkS_data, hdl_no h]; rfl
theorem par_len {s : ByteArray} (h : isPath s.data.toList = true) : (hdl s).length = (pcs s).length := hdl_yes h
theorem par_one {s : ByteArray} (h : isPath s.data.toList = true) (h1 : (pcs s).length = 1) : (par s).data.toList = [] := by
  rw [par, mkS_data, hdl_yes h, h1]; rfl
theorem par_up {s : ByteArray} (h : isPath s.data.toList = true) (h1 : 2 ≤ (pcs s).length) : (par s).data.toList ≠ [] := by
  have hp : (par s).data.toList = headOf s.data.toList ((pcs s).length - 1) := by rw [par, mkS_data, hdl_yes h]
  obtain ⟨j, hj⟩ : ∃ j, (pcs s).length - 1 = j + 1 := ⟨(pcs s).length - 2, by omega⟩
  rw [hj] at hp
  have hpp : isPath (par s).data.toList = true := path_below h (by rw [hp, split_head]; exact List.take_prefix _ _)
  exact isPath_ne hpp

theorem refPath_bb (s : ByteArray) (b : Bool) (hb : isPath s.data.toList = b) (w : World) (hn : s.size ≤ 100000) : Calls Try.prog 12 #[.string s] w fun e w' => e = .returned (.bool b) ∧ Below w.heap.size w w' := refPath_b s b hb w (by omega)

set_option maxRecDepth 100000 in
set_option maxHeartbeats 2000000 in
theorem refParent_b (s P : ByteArray) (u : Bool) (hP : par s = P) (hu : (!P.data.toList == []) = u) (w : World) (hn : s.size ≤ 100000) : Calls Try.prog 16 #[.string s] w fun e w' => e = .returned (.tuple #[.string P, .bool u]) ∧ Below w.heap.size w w' := by
  have HPP : Hid (par s = P) := hP
  have HUU : Hid ((!P.data.toList == []) = u) := hu
  clear hP hu
  have HN : Hid (s.size ≤ 100000) := hn
  obtain ⟨A, hA⟩ : ∃ A, (pcs s).length = A := ⟨_, rfl⟩
  have HA : Hid ((pcs s).length = A) := hA
  have hA2 : (A : Int) ≤ 100001 := by
    have e := split_len s.data.toList
    have e2 := HN.out
    rw [size_list] at e2
    rw [← hA, pcs_len]; omega
  have hA1 : 1 ≤ A := by rw [← hA]; exact pcs_pos s
  clear hn
  cases hp : isPath s.data.toList with
  | false =>
    have HP : Hid (isPath s.data.toList = false) := hp
    clear hp
    go_enter Try.func16, Try.ntmps16
    go_wp2_with fail
    refine (refSplit_in s _ HN.out).mono ?_
    rintro e w1 ⟨g, cap, rfl, HS1, HB1⟩
    rw [hA]
    go_wp2_with fail
    refine (refPath_bb s false HP.out _ HN.out).mono ?_
    rintro e w2 ⟨rfl, hB2⟩
    have HB2 : Hid (Below w.heap.size w w2) := HB1.out.trans (hB2.mono HB1.out.size)
    clear hB2
    go_wp2_with fail
    go_ret2
    refine ⟨?_, HB2.out⟩
    have e1 : P = ⟨#[]⟩ := list_inj (by rw [← HPP.out]; exact par_no HP.out)
    have e2 := HUU.out
    rw [e1] at e2 ⊢
    rw [← e2]; rfl
  | true =>
    have HP : Hid (isPath s.data.toList = true) := hp
    clear hp
    by_cases h1 : A = 1
    · have HP1 : Hid ((par s).data.toList = []) := par_one HP.out (by rw [HA.out, h1])
      have q1 : (A : Int) < 2 := by omega
      clear h1
      go_enter Try.func16, Try.ntmps16
      go_wp2_with fail
      refine (refSplit_in s _ HN.out).mono ?_
      rintro e w1 ⟨g, cap, rfl, HS1, HB1⟩
      rw [hA]
      go_wp2_with fail
      refine (refPath_bb s true HP.out _ HN.out).mono ?_
      rintro e w2 ⟨rfl, hB2⟩
      have HB2 : Hid (Below w.heap.size w w2) := HB1.out.trans (hB2.mono HB1.out.size)
      clear hB2
      go_wp2_with fail
      go_ret2
      refine ⟨?_, HB2.out⟩
      have e1 : P = ⟨#[]⟩ := list_inj (by rw [← HPP.out]; exact HP1.out)
      have e2 := HUU.out
      rw [e1] at e2 ⊢
      rw [← e2]; rfl
    · have q1 : ¬ (A : Int) < 2 := by omega
      have HA2 : Hid (2 ≤ A) := by show 2 ≤ A; omega
      have HPU : Hid ((par s).data.toList ≠ []) := par_up HP.out (by rw [HA.out]; omega)
      have HPE : Hid ((par s).data.toList = headOf s.data.toList (A - 1)) := by
        show _ = _
        rw [par, mkS_data, hdl_yes HP.out, HA.out]
      have hsz := pcs_few s HP.out
      have HF : Hid (s.size ≤ 64) := hsz.2
      clear h1 hsz
      go_enter Try.func16, Try.ntmps16
      go_wp2_with fail
      refine (refSplit_in s _ HN.out).mono ?_
      rintro e w1 ⟨g, cap, rfl, HS1, HB1⟩
      rw [hA]
      rw [hA] at HS1
      go_wp2_with fail
      refine (refPath_bb s true HP.out _ HN.out).mono ?_
      rintro e w2 ⟨rfl, hB2⟩
      have HB2 : Hid (Below w.heap.size w w2) := HB1.out.trans (hB2.mono HB1.out.size)
      have HS2 : Hid (Strs w2 (some ⟨g, 0, none⟩) A (pcs s)) := HS1.out.below hB2
      obtain ⟨_, _, hab, hbs, hcell⟩ := HS2.out.2 (by omega)
      simp only [Option.some.injEq, Addr.mk.injEq] at hab
      obtain ⟨rfl, rfl, _⟩ := hab
      have HCELL : Hid (∀ i y, (pcs s)[i]? = some y → w2.cell? ⟨g, i, none⟩ = some (.string y)) := by
        intro i y hy
        have e := hcell i y hy
        rwa [Nat.zero_add] at e
      obtain ⟨x0, hx0⟩ : ∃ x, (pcs s)[0]? = some x := ⟨_, List.getElem?_eq_getElem (by rw [HA.out]; omega)⟩
      have hc0 : w2.cell? ⟨g, 0, none⟩ = some (.string x0) := HCELL.out 0 x0 hx0
      have HX0 : Hid (x0.data.toList = headOf s.data.toList 1) := (headOf_first _ _ (pcs_at hx0)).symm
      clear hB2 HS1 hbs hcell hx0 hA
      go_wp2_with fail
      go_loopw [5, 6] (fun u i wr => ∃ (t : Nat) (o : ByteArray), u = .string o ∧ i = .int .i64 ((t : Int) + 1) ∧ t + 2 ≤ A ∧ Hid (o.data.toList = headOf s.data.toList (t + 1)) ∧ Hid (w2 = wr)) (fun _ i _ => A - (intOf i).toNat)
      case atStart => exact ⟨0, x0, rfl, rfl, HA2.out, HX0, rfl⟩
      case round =>
        obtain ⟨t, o, rfl, rfl, ht, ho, hww⟩ := hrel
        have b0 : (A : Int) - 1 ≤ 100000 := by omega
        by_cases hlt : t + 2 = A
        · have HO : Hid (o.data.toList = (par s).data.toList) := by
            show _ = _
            rw [ho.out, HPE.out, show A - 1 = t + 1 by omega]
          have q4 : ¬ (t : Int) + 1 < (A : Int) - 1 := by omega
          clear hlt
          go_wp2_with fail
          go_ret2
          refine ⟨?_, by rw [← hww.out]; exact HB2.out⟩
          have e1 : o = P := list_inj (by rw [← HPP.out]; exact HO.out)
          have e2 : u = true := by rw [← HUU.out, ← HPP.out]; simpa using HPU.out
          rw [e1, e2]; rfl
        · have q4 : (t : Int) + 1 < (A : Int) - 1 := by omega
          have q5 : (t : Int) + 1 < (A : Int) := by omega
          have q6 : ((t : Int) + 1).toNat = t + 1 := by omega
          have HT : Hid (t + 3 ≤ A) := by show t + 3 ≤ A; omega
          obtain ⟨x, hx⟩ : ∃ x, (pcs s)[t + 1]? = some x := ⟨_, List.getElem?_eq_getElem (by rw [HA.out]; omega)⟩
          have hc : wr.cell? ⟨g, t + 1, none⟩ = some (.string x) := by rw [← hww.out]; exact HCELL.out _ x hx
          have HNX : Hid (headOf s.data.toList (t + 2) = headOf s.data.toList (t + 1) ++ 47 :: x.data.toList) := headOf_next _ _ t (pcs_at hx)
          have hxs : x.size ≤ 64 := Nat.le_trans (pcs_size hx) HF.out
          have hos : o.size ≤ 64 := by
            have e := headOf_le s.data.toList t (by rw [← pcs_len, HA.out]; omega)
            rw [← ho.out, ← size_list, ← size_list] at e
            exact Nat.le_trans e HF.out
          clear hlt hx
          go_wp2_with fail
          go_roundw
          case rel =>
            refine ⟨t + 1, o ++ ⟨#[47]⟩ ++ x, rfl, by simp, by have := HT.out; omega, ?_, hww⟩
            show _ = _
            rw [HNX.out, ← ho.out, data_app, data_app]
            simp
          case measure => have := HT.out; simp [intOf]; omega
#print axioms refParent_b
end Go.Proofs.Ythhdogokigpieaa.Oct
