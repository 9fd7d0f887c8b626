/-
  Layer 4 (frame): frames one behind the other, cut off anywhere, as plain mathematics.
-/
import Derived.Test.YtchblcfbllcbmabOpenIs
import Derived.Test.YtchblcfbllcbmabTurned
namespace Go.Proofs.Ytchblcfbllcbmab.Oct

theorem num_app (x y : List UInt8) (hx : x.length = 4) : num4 (x ++ y) = num4 x := by
  match x, hx with
  | [_, _, _, _], _ => rfl

/-- the parts of a frame -/
theorem frame_parts (x R : List UInt8) (hx : x.length ≤ 65536) : ∃ H S T : List UInt8, frameOf x ++ R = H ++ (S ++ (x ++ (T ++ R))) ∧ H.length = 4 ∧ S.length = 4 ∧ T.length = 4 ∧ num4 H = x.length ∧ num4 S = (crc H).toNat ∧ num4 T = (crc x).toNat := by
  refine ⟨be4 x.length, be4 (crc (be4 x.length)).toNat, be4 (crc x).toNat, by simp [frameOf], rfl, rfl, rfl, num4_be4 (by omega), num4_be4 (lt32 _), num4_be4 (lt32 _)⟩

theorem err_frame (x R : List UInt8) (hx : x.length ≤ 65536) : errOf (frameOf x ++ R) = 0 ∧ num4 (frameOf x ++ R) = x.length ∧ bodyOf (frameOf x ++ R) = x := by
  obtain ⟨H, S, T, e, lH, lS, lT, nH, nS, nT⟩ := frame_parts x R hx
  rw [e]
  have h1 : (H ++ (S ++ (x ++ (T ++ R)))).take 4 = H := by rw [List.take_append_of_le_length (by omega), List.take_of_length_le (by omega)]
  have h2 : (H ++ (S ++ (x ++ (T ++ R)))).drop 4 = S ++ (x ++ (T ++ R)) := by rw [List.drop_append_of_le_length (by omega), List.drop_eq_nil_of_le (by omega), List.nil_append]
  have h3 : num4 (H ++ (S ++ (x ++ (T ++ R)))) = x.length := by rw [num_app _ _ lH, nH]
  have h4 : (H ++ (S ++ (x ++ (T ++ R)))).drop 8 = x ++ (T ++ R) := by
    rw [← List.append_assoc, List.drop_append_of_le_length (by simp; omega), List.drop_eq_nil_of_le (by simp; omega), List.nil_append]
  have h5 : ((H ++ (S ++ (x ++ (T ++ R)))).take (x.length + 8)).drop 8 = x := by
    rw [List.drop_take, h4, show x.length + 8 - 8 = x.length by omega, List.take_append_of_le_length (by omega), List.take_of_length_le (by omega)]
  have h6 : (H ++ (S ++ (x ++ (T ++ R)))).drop (x.length + 8) = T ++ R := by
    rw [show x.length + 8 = 8 + x.length by omega, ← List.drop_drop, h4, List.drop_append_of_le_length (by omega), List.drop_eq_nil_of_le (by omega), List.nil_append]
  refine ⟨?_, h3, by unfold bodyOf; rw [h3, h5]⟩
  unfold errOf
  rw [h3, h1, h2, h5, h6, num_app _ _ lS, num_app _ _ lT, nS, nT]
  rw [if_neg (by simp; omega), if_neg (by simp), if_neg (by omega), if_neg (by simp; omega), if_neg (by simp)]

theorem err_cut (x R : List UInt8) (k : Nat) (hx : x.length ≤ 65536) (hk : k < x.length + 12) : errOf ((frameOf x ++ R).take k) ≠ 0 := by
  by_cases h8 : k < 8
  · unfold errOf
    rw [if_pos (by rw [List.length_take]; omega)]
    omega
  · obtain ⟨H, S, T, e, lH, lS, lT, nH, nS, nT⟩ := frame_parts x R hx
    rw [e]
    have e2 : (H ++ (S ++ (x ++ (T ++ R)))).take k = H ++ (S ++ (x ++ (T ++ R)).take (k - 8)) := by
      rw [List.take_append, List.take_of_length_le (by omega), lH, List.take_append, List.take_of_length_le (by omega), lS, show k - 4 - 4 = k - 8 by omega]
    rw [e2]
    obtain ⟨Y, hY⟩ : ∃ Y, Y = (x ++ (T ++ R)).take (k - 8) := ⟨_, rfl⟩
    have lY : Y.length ≤ k - 8 := by rw [hY, List.length_take]; omega
    rw [← hY]
    have h1 : (H ++ (S ++ Y)).take 4 = H := by rw [List.take_append_of_le_length (by omega), List.take_of_length_le (by omega)]
    have h2 : (H ++ (S ++ Y)).drop 4 = S ++ Y := by rw [List.drop_append_of_le_length (by omega), List.drop_eq_nil_of_le (by omega), List.nil_append]
    have h3 : num4 (H ++ (S ++ Y)) = x.length := by rw [num_app _ _ lH, nH]
    unfold errOf
    rw [h3, h1, h2, num_app _ _ lS, nS, if_neg (by simp; omega), if_neg (by simp), if_neg (by omega), if_pos (by simp; omega)]
    omega

/-- frames one behind the other -/
def bb : List (List UInt8) → List UInt8
  | [] => []
  | x :: xs => frameOf x ++ bb xs
theorem bb_append (xs ys : List (List UInt8)) : bb (xs ++ ys) = bb xs ++ bb ys := by
  induction xs with
  | nil => rfl
  | cons x xs ih => simp [bb, ih]
/-- where the frame number i begins -/
def E (xs : List (List UInt8)) (i : Nat) : Nat := (bb (xs.take i)).length
theorem E_zero (xs : List (List UInt8)) : E xs 0 = 0 := rfl
theorem bb_snoc (xs : List (List UInt8)) (i : Nat) (h : i < xs.length) : bb (xs.take (i + 1)) = bb (xs.take i) ++ frameOf xs[i] := by
  rw [List.take_succ_eq_append_getElem h, bb_append]
  simp [bb]
theorem E_succ (xs : List (List UInt8)) (i : Nat) (h : i < xs.length) : E xs (i + 1) = E xs i + xs[i].length + 12 := by
  unfold E
  rw [bb_snoc xs i h, List.length_append, frameOf_length]
  omega
theorem E_all (xs : List (List UInt8)) : E xs xs.length = (bb xs).length := by unfold E; rw [List.take_length]
theorem bb_from (xs : List (List UInt8)) (i : Nat) : (bb xs).drop (E xs i) = bb (xs.drop i) := by
  have e : bb xs = bb (xs.take i) ++ bb (xs.drop i) := by rw [← bb_append, List.take_append_drop]
  rw [e]
  unfold E
  rw [List.drop_append_of_le_length (Nat.le_refl _), List.drop_eq_nil_of_le (Nat.le_refl _), List.nil_append]

/-- what stands at a frame's beginning -/
theorem at_frame (xs : List (List UInt8)) (n i : Nat) (hall : ∀ x ∈ xs, x.length ≤ 65536) (hi : i ≤ xs.length) :
    (errOf (((bb xs).take n).drop (E xs i)) = 0 → ∃ h : i < xs.length, E xs (i + 1) ≤ n ∧ num4 (((bb xs).take n).drop (E xs i)) = xs[i].length ∧ bodyOf (((bb xs).take n).drop (E xs i)) = xs[i]) ∧
    (errOf (((bb xs).take n).drop (E xs i)) ≠ 0 → i = xs.length ∨ n < E xs (i + 1)) := by
  rw [List.drop_take, bb_from]
  rcases Nat.lt_or_ge i xs.length with h | h
  · have e : bb (xs.drop i) = frameOf xs[i] ++ bb (xs.drop (i + 1)) := by rw [List.drop_eq_getElem_cons h]; rfl
    have hs := E_succ xs i h
    have hx := hall xs[i] (List.getElem_mem h)
    rw [e]
    rcases Nat.lt_or_ge n (E xs (i + 1)) with hlt | hge
    · have hc := err_cut xs[i] (bb (xs.drop (i + 1))) (n - E xs i) hx (by omega)
      exact ⟨fun h0 => absurd h0 hc, fun _ => .inr hlt⟩
    · have e2 : (frameOf xs[i] ++ bb (xs.drop (i + 1))).take (n - E xs i) = frameOf xs[i] ++ (bb (xs.drop (i + 1))).take (n - E xs (i + 1)) := by
        rw [List.take_append, List.take_of_length_le (by rw [frameOf_length]; omega), frameOf_length, show n - E xs i - (xs[i].length + 12) = n - E xs (i + 1) by omega]
      rw [e2]
      have hf := err_frame xs[i] ((bb (xs.drop (i + 1))).take (n - E xs (i + 1))) hx
      exact ⟨fun _ => ⟨h, hge, hf.2.1, hf.2.2⟩, fun h0 => absurd hf.1 h0⟩
  · have hi' : i = xs.length := by omega
    subst hi'
    rw [List.drop_eq_nil_of_le (Nat.le_refl _)]
    have e0 : errOf ((bb []).take (n - E xs xs.length)) ≠ 0 := by simp [bb, errOf]
    exact ⟨fun h0 => absurd h0 e0, fun _ => .inl rfl⟩
#print axioms at_frame
end Go.Proofs.Ytchblcfbllcbmab.Oct
