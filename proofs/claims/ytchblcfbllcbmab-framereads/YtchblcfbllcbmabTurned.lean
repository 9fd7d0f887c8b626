/-
  Layer 4 (frame): the law on a turned byte.
-/
import Derived.Test.YtchblcfbllcbmabUnframe
namespace Go.Proofs.Ytchblcfbllcbmab.Oct
open Go.RowKit

/-- one byte of an own slice is another one -/
theorem own_set {B : Nat} {w : World} {g n cc : Nat} {l : List UInt8} (h : Own 5 B w (.slice (some ⟨g, 0, none⟩) n cc) l) (hn : l.length = n) (t : Nat) (ht : t < l.length) :
    w.cell? ⟨g, t, none⟩ = some (.int .u8 (l[t].toNat : Int)) ∧ w.frozen? ⟨g, t, none⟩ = false ∧ B ≤ g ∧ ∀ x : UInt8, Own 5 B (w.setCell ⟨g, t, none⟩ (.int .u8 (x.toNat : Int))) (.slice (some ⟨g, 0, none⟩) n cc) (l.set t x) := by
  rcases h.2 with ⟨h1, h2⟩ | ⟨g', cap, cur, e1, e2, hg, e3, e4, e5, e6⟩
  · omega
  · simp only [Value.slice.injEq, Option.some.injEq, Addr.mk.injEq] at e1
    obtain ⟨⟨rfl, _⟩, _, rfl⟩ := e1
    have hc : ∀ i (hi : i < l.length), cur.toList[i]? = some (.int .u8 (l[i].toNat : Int)) := by
      intro i hi
      have e7 : (cur.toList.take (l.length * 1))[i]? = (U l)[i]? := by rw [e6]
      rw [U_get l i hi, List.getElem?_take, if_pos (by omega)] at e7
      exact e7
    have hcell : w.cell? ⟨g, t, none⟩ = some (.int .u8 (l[t].toNat : Int)) := by
      rw [cell_of_row w g t _ 5 (0, 0) hg, ← Array.getElem?_toList]; exact hc t ht
    refine ⟨hcell, frozen_of_row w g t _ 5 hg, e2, fun x => ?_⟩
    refine ⟨by simp [U], .inr ⟨g, cc, cur.setIfInBounds t (.int .u8 (x.toNat : Int)), by rw [List.length_set, hn], e2, heap_setCell_same w g t _ 5 _ hg, by rw [List.length_set]; exact e3, e4, by simpa using e5, ?_⟩⟩
    rw [Nat.mul_one] at e6 ⊢
    rw [List.length_set, Array.toList_setIfInBounds, List.take_set, e6]
    simp [U, List.map_set]

theorem frameOf_length (l : List UInt8) : (frameOf l).length = l.length + 12 := by simp [frameOf, be4]
theorem xor_ne {x c : UInt8} (h : c ≠ 0) : x ^^^ c ≠ x := by
  intro e
  apply h
  have e2 := congrArg (x ^^^ ·) e
  simpa [← UInt8.xor_assoc] using e2
theorem xor8_eq (x y : UInt8) : bits BinOp.xor IntKind.u8 (x.toNat : Int) (y.toNat : Int) = ((x ^^^ y).toNat : Int) := by
  rw [u8_xor_nat _ _ x.toNat_lt y.toNat_lt, UInt8.toNat_xor]

/-- the parts of a frame of which one byte is another one -/
theorem turned_bad (b : List UInt8) (hb : b.length ≤ 65536) (p : Nat) (hp : p < b.length + 12) (d : UInt8) (hd : d ≠ (frameOf b).getD p 0) :
    ((crc (((frameOf b).set p d).take 4)).toNat ≠ num4 (((frameOf b).set p d).drop 4)) ∨
    ((crc (((frameOf b).set p d).take 4)).toNat = num4 (((frameOf b).set p d).drop 4) ∧ num4 ((frameOf b).set p d) = b.length ∧
      (crc ((((frameOf b).set p d).take (b.length + 8)).drop 8)).toNat ≠ num4 (((frameOf b).set p d).drop (b.length + 8))) := by
  obtain ⟨H, hH⟩ : ∃ H, H = be4 b.length := ⟨_, rfl⟩
  obtain ⟨S, hS⟩ : ∃ S, S = be4 (crc (be4 b.length)).toNat := ⟨_, rfl⟩
  obtain ⟨T, hT⟩ : ∃ T, T = be4 (crc b).toNat := ⟨_, rfl⟩
  have hf : frameOf b = H ++ S ++ b ++ T := by rw [hH, hS, hT]; rfl
  have lH : H.length = 4 := by rw [hH]; rfl
  have lS : S.length = 4 := by rw [hS]; rfl
  have lT : T.length = 4 := by rw [hT]; rfl
  have nS : num4 S = (crc H).toNat := by rw [hS, hH]; exact num4_be4 (lt32 _)
  have nT : num4 T = (crc b).toNat := by rw [hT]; exact num4_be4 (lt32 _)
  have nH : num4 H = b.length := by rw [hH]; exact num4_be4 (by omega)
  rw [hf] at hd ⊢
  have num_app : ∀ (x y : List UInt8), x.length = 4 → num4 (x ++ y) = num4 x := by
    intro x y hx
    match x, hx with
    | [_, _, _, _], _ => rfl
  clear hf hH hS hT
  rcases Nat.lt_or_ge p 4 with h4 | h4
  · left
    have e : (H ++ S ++ b ++ T).set p d = H.set p d ++ S ++ b ++ T := by
      rw [List.append_assoc, List.append_assoc, List.set_append_left _ _ (by omega), List.append_assoc, List.append_assoc]
    have hd' : d ≠ H[p]'(by omega) := by
      intro h; apply hd
      rw [List.getD_eq_getElem?_getD, List.append_assoc, List.append_assoc, List.getElem?_append_left (by omega), List.getElem?_eq_getElem (by omega), h]; rfl
    rw [e, List.append_assoc, List.append_assoc, List.take_append_of_le_length (by simp; omega), List.take_of_length_le (by simp; omega), List.drop_append_of_le_length (by simp; omega), List.drop_eq_nil_of_le (by simp; omega), List.nil_append, num_app _ _ lS, nS]
    intro h
    exact crc_set (by omega) hd' (UInt32.toNat_inj.1 h)
  · rcases Nat.lt_or_ge p 8 with h8 | h8
    · left
      have e : (H ++ S ++ b ++ T).set p d = H ++ (S.set (p - 4) d ++ b ++ T) := by
        rw [List.append_assoc, List.append_assoc, List.set_append_right _ _ (by omega), lH, ← List.append_assoc S, List.append_assoc S, List.set_append_left _ _ (by omega), List.append_assoc]
      have hd' : d ≠ S.getD (p - 4) 0 := by
        intro h; apply hd
        rw [List.getD_eq_getElem?_getD, List.append_assoc, List.append_assoc, List.getElem?_append_right (by omega), lH, List.getElem?_append_left (by omega), ← List.getD_eq_getElem?_getD, h]
      rw [e, List.take_append_of_le_length (by omega), List.take_of_length_le (by omega), List.drop_append_of_le_length (by omega), List.drop_eq_nil_of_le (by omega), List.nil_append, List.append_assoc, num_app _ _ (by simp; omega), ← nS]
      exact fun h => num4_set lS (by omega) hd' h.symm
    · right
      have hdrop : ∀ y : List UInt8, (H ++ (S ++ y)).take 4 = H ∧ (H ++ (S ++ y)).drop 4 = S ++ y ∧ num4 (H ++ (S ++ y)) = b.length := by
        intro y
        refine ⟨?_, ?_, ?_⟩
        · rw [List.take_append_of_le_length (by omega), List.take_of_length_le (by omega)]
        · rw [List.drop_append_of_le_length (by omega), List.drop_eq_nil_of_le (by omega), List.nil_append]
        · rw [num_app _ _ lH, nH]
      have hSy : ∀ y : List UInt8, num4 (S ++ y) = (crc H).toNat := fun y => by rw [num_app _ _ lS, nS]
      have h8d : ∀ y : List UInt8, (H ++ (S ++ y)).drop 8 = y := by
        intro y
        rw [← List.append_assoc, List.drop_append_of_le_length (by simp; omega), List.drop_eq_nil_of_le (by simp; omega), List.nil_append]
      rcases Nat.lt_or_ge p (b.length + 8) with hb8 | hb8
      · have e : (H ++ S ++ b ++ T).set p d = H ++ (S ++ (b.set (p - 8) d ++ T)) := by
          rw [List.append_assoc, List.append_assoc, List.set_append_right _ _ (by omega), lH, List.set_append_right _ _ (by omega), lS, List.set_append_left _ _ (by omega), show p - 4 - 4 = p - 8 by omega]
        have hd' : d ≠ b[p - 8]'(by omega) := by
          intro h; apply hd
          rw [List.getD_eq_getElem?_getD, List.append_assoc, List.append_assoc, List.getElem?_append_right (by omega), lH, List.getElem?_append_right (by omega), lS, List.getElem?_append_left (by omega), show p - 4 - 4 = p - 8 by omega, List.getElem?_eq_getElem (by omega), h]; rfl
        rw [e, (hdrop _).1, (hdrop _).2.1, (hdrop _).2.2, hSy, List.drop_take, h8d, show b.length + 8 = 8 + b.length by omega, ← List.drop_drop, h8d, show 8 + b.length - 8 = b.length by omega]
        refine ⟨rfl, rfl, ?_⟩
        rw [List.take_append_of_le_length (by simp), List.take_of_length_le (by simp), List.drop_append_of_le_length (by simp), List.drop_eq_nil_of_le (by simp), List.nil_append, nT]
        intro h
        exact crc_set (by omega) hd' (UInt32.toNat_inj.1 h)
      · have e : (H ++ S ++ b ++ T).set p d = H ++ (S ++ (b ++ T.set (p - 8 - b.length) d)) := by
          rw [List.append_assoc, List.append_assoc, List.set_append_right _ _ (by omega), lH, List.set_append_right _ _ (by omega), lS, List.set_append_right _ _ (by omega), show p - 4 - 4 - b.length = p - 8 - b.length by omega]
        have hd' : d ≠ T.getD (p - 8 - b.length) 0 := by
          intro h; apply hd
          rw [List.getD_eq_getElem?_getD, List.append_assoc, List.append_assoc, List.getElem?_append_right (by omega), lH, List.getElem?_append_right (by omega), lS, List.getElem?_append_right (by omega), ← List.getD_eq_getElem?_getD, show p - 4 - 4 - b.length = p - 8 - b.length by omega, h]
        rw [e, (hdrop _).1, (hdrop _).2.1, (hdrop _).2.2, hSy, List.drop_take, h8d, show b.length + 8 = 8 + b.length by omega, ← List.drop_drop, h8d, show 8 + b.length - 8 = b.length by omega]
        refine ⟨rfl, rfl, ?_⟩
        rw [List.take_append_of_le_length (by omega), List.take_of_length_le (by omega), List.drop_append_of_le_length (by omega), List.drop_eq_nil_of_le (by omega), List.nil_append, ← nT]
        exact fun h => num4_set lT (by omega) hd' h.symm
#print axioms turned_bad
end Go.Proofs.Ytchblcfbllcbmab.Oct
