/-
  Layer 2 (hash): 'Hex'.
-/
import Derived.Test.YtjeahlfmapacfaaDoorSlices
import Derived.Test.YtjeahlfmapacfaaDoorEnding
import Derived.Deep.RegionLaw
namespace Go.Proofs.YtjeahlfmapacfaaDoor.Oct
open Go.RowKit Sha

def digits : List UInt8 := [48, 49, 50, 51, 52, 53, 54, 55, 56, 57, 97, 98, 99, 100, 101, 102]
/-- bytes to the base 16 -/
def hexOf : List UInt8 → List UInt8
  | [] => []
  | c :: l => digits.getD (c.toNat / 16) 0 :: digits.getD (c.toNat % 16) 0 :: hexOf l
theorem hexOf_append (l r : List UInt8) : hexOf (l ++ r) = hexOf l ++ hexOf r := by
  induction l with
  | nil => rfl
  | cons c l ih => simp [hexOf, ih]
theorem hexOf_length (l : List UInt8) : (hexOf l).length = 2 * l.length := by
  induction l with
  | nil => rfl
  | cons c l ih => simp [hexOf, ih]; omega

theorem digits_at (A : Nat) (h : A < (⟨#[48, 49, 50, 51, 52, 53, 54, 55, 56, 57, 97, 98, 99, 100, 101, 102]⟩ : ByteArray).size) : (⟨#[48, 49, 50, 51, 52, 53, 54, 55, 56, 57, 97, 98, 99, 100, 101, 102]⟩ : ByteArray)[A]'h = digits.getD A 0 := by
  have hA : A < digits.length := h
  show (#[48, 49, 50, 51, 52, 53, 54, 55, 56, 57, 97, 98, 99, 100, 101, 102] : Array UInt8)[A]'h = _
  rw [List.getD_eq_getElem?_getD, List.getElem?_eq_getElem hA]
  rfl
theorem and15 (X : Nat) (h : X < 256) : bits BinOp.and IntKind.u8 (X : Int) 15 = ((X % 16 : Nat) : Int) := by
  rw [show (15 : Int) = ((15 : Nat) : Int) from rfl, u8_and_nat _ _ h (by omega)]
  congr 1
  exact Nat.and_two_pow_sub_one_eq_mod X 4

set_option maxHeartbeats 400000 in
theorem hex_is (l : List UInt8) (a : Option Addr) (n cp : Nat) (w : World) (hl : In w a n cp l) (hn : n ≤ 100000) :
    Calls Tryd.prog 35 #[.slice a n cp] w fun e w' => e = .returned (.string ⟨(hexOf l).toArray⟩) ∧ Below w.heap.size w w' := by
  obtain ⟨i0, hi, hz0, hz1, hz2⟩ := info_parts info5
  have HL : Hid (In w a n cp l) := hl
  have HLL : Hid (l.length = n) := hl.1
  have HN : Hid (n ≤ 100000) := hn
  have q0 : (n : Int) ≤ 100000 := by omega
  obtain ⟨N, hN⟩ : ∃ N, N = 2 * n := ⟨_, rfl⟩
  have hN1 : 2 * (n : Int) = (N : Int) := by omega
  have hN2 : N ≤ 200000 := by omega
  have HNN : Hid (N = 2 * n) := hN
  clear hl hN
  go_enter Tryd.func35, Tryd.ntmps35
  go_wp2_with (at_make; refine wpList_make_two _ rfl _ _ 22 rfl 5 i0 Tryd.underlying22 hi hz0 hz1 hz2 _ _ _ _ 0 N rfl rfl (by omega) (by omega) (by omega) (by omega) ?_)
  intro w1 hrow1 hsz1 hb1
  have HO1 : Hid (Own 5 w.heap.size w1 (.slice (some ⟨w.heap.size, 0, none⟩) 0 N) []) := ⟨rfl, .inr ⟨_, N, _, rfl, Nat.le_refl _, hrow1.out, Nat.zero_le _, by unfold maxLen; omega, by simp [noughts], rfl⟩⟩
  have HB1 : Hid (Below w.heap.size w w1) := hb1
  clear hrow1 hsz1 hb1 hN1 hN2
  go_wp2_with fail
  go_loopw [12, 3] (fun i v wr => ∃ t : Nat, i = .int .i64 t ∧ t ≤ n ∧ Hid (Own 5 w.heap.size wr v (hexOf (l.take t))) ∧ Hid (Below w.heap.size w wr)) (fun i _ _ => n - (intOf i).toNat)
  case atStart => exact ⟨0, rfl, by omega, HO1.out, HB1.out⟩
  case round =>
    obtain ⟨t, rfl, ht, ho, hb⟩ := hrel
    by_cases hlt : t = n
    · subst hlt
      have hfull : l.take t = l := List.take_of_length_le (by rw [HLL.out]; exact Nat.le_refl _)
      rw [hfull] at ho
      have hHL : (hexOf l).length ≤ 140737488355328 := by rw [hexOf_length, HLL.out]; have := HN.out; omega
      obtain ⟨ah, ch, rfl, hinh, -⟩ := own_in ho.out hHL
      have hcv := string_in Tryd.underlying22 Tryd.underlying5 Tryd.underlying9 hinh
      have HB : Hid (Below w.heap.size w wr) := hb
      generalize hS : (⟨(hexOf l).toArray⟩ : ByteArray) = S at hcv
      have HS : Hid ((⟨(hexOf l).toArray⟩ : ByteArray) = S) := hS
      generalize (hexOf l).length = K at *
      clear hS hinh hHL
      go_wp2
      go_ret
      refine ⟨?_, HB.out⟩
      rw [HS.out]
      rfl
    · have q1 : (t : Int) < (n : Int) := by omega
      have HT : Hid (t < n) := by show t < n; omega
      obtain ⟨ba, oa, rfl, ha1, ha2⟩ := HL.out.2.2.2.2 (by omega)
      have htl : t < l.length := by rw [HLL.out]; exact HT.out
      obtain ⟨x, hx⟩ : ∃ x, x = l[t] := ⟨_, rfl⟩
      have c1 : wr.cell? ⟨ba, oa + t, none⟩ = some (.int .u8 (x.toNat : Int)) := by
        rw [hb.out.cell (p := ⟨ba, oa + t, none⟩) ha1]
        exact ha2 t _ (by rw [List.getElem?_eq_getElem htl, hx])
      have HNX : Hid (hexOf (l.take (t + 1)) = hexOf (l.take t) ++ [digits.getD (x.toNat / 16) 0, digits.getD (x.toNat % 16) 0]) := by
        show _ = _
        rw [List.take_succ_eq_append_getElem htl, hexOf_append, ← hx]
        rfl
      have HXL : Hid (x.toNat < 256) := x.toNat_lt
      obtain ⟨X, hX⟩ : ∃ X, X = x.toNat := ⟨_, rfl⟩
      rw [← hX] at c1 HNX HXL
      have q2 : (X : Int) < 256 := by have := HXL.out; omega
      obtain ⟨A, hA⟩ : ∃ A, A = X / 16 := ⟨_, rfl⟩
      obtain ⟨B, hB⟩ : ∃ B, B = X % 16 := ⟨_, rfl⟩
      have hA1 : (X : Int) / 16 = (A : Int) := by omega
      have hB1 : bits BinOp.and IntKind.u8 (X : Int) 15 = (B : Int) := by rw [hB]; exact and15 X HXL.out
      have hA2 : A < 16 := by have := HXL.out; omega
      have hB2 : B < 16 := by omega
      have hA3 : (A : Int) < 16 := by omega
      have hB3 : (B : Int) < 16 := by omega
      rw [← hA, ← hB] at HNX
      have hg1 := digits_at A
      have hg2 := digits_at B
      generalize digits.getD A 0 = d1 at HNX hg1
      generalize digits.getD B 0 = d2 at HNX hg2
      clear ha2 hlt hX hx htl hA hB
      obtain ⟨hl1, hsh⟩ : Hid ((hexOf (l.take t)).length = 2 * t) ∧ True := by
        refine ⟨?_, trivial⟩
        show _ = _
        rw [hexOf_length, List.length_take, HLL.out]; have := HT.out; omega
      go_wp2_with fail
      have HI : Hid (In (wr.drew.alloc (.cells (U [d1, d2]).toArray 5)) (some ⟨wr.drew.heap.size, 0, none⟩) 2 2 [d1, d2]) := in_new wr.drew 5 [d1, d2] (by simp)
      have HO : Hid ((wr.drew.alloc (.cells (U [d1, d2]).toArray 5)).ownsRow w.heap.size 5 1 u3 (2 * t) (U (hexOf (l.take t)))) := World.ownsRow.alloc (show wr.drew.ownsRow w.heap.size 5 1 u3 (2 * t) (U (hexOf (l.take t))) from own_size hl1.out ho.out) _
      go_region_law (refine step_append_in _ (by rfl) (.tmp 16) (.tmp 23) 22 rfl w.heap.size 5 i0 Tryd.underlying22 hi hz0 hz1 hz2 u3 (hexOf (l.take t)) (2 * t) hl1.out rfl HO.out (some ⟨wr.drew.heap.size, 0, none⟩) 2 2 [d1, d2] rfl HI.out (by have := HN.out; have := HT.out; omega) (by have := hb.out.size; simp; omega) ?_; intro v' w' ho' hg')
      all_goals
        have HOX : Hid (Own 5 w.heap.size w' v' (hexOf (l.take (t + 1)))) := by rw [HNX.out]; exact ho'
        have HBX : Hid (Below w.heap.size w w') := (hb.out.drew.alloc (by have := hb.out.size; simpa using this) _).grown hg' (by have := hb.out.size; simp; omega) (by intro b hb; exact (HO.out.lt b hb).1)
        clear ho' hg'
        go_wp2
        refine ⟨⟨t + 1, by simp, HT.out, HOX, HBX⟩, ?_⟩
        have := HT.out
        show n - (intOf (.int .i64 ((t : Int) + 1))).toNat < n - (intOf (.int .i64 (t : Int))).toNat
        simp only [intOf]
        omega
#print axioms hex_is
end Go.Proofs.YtjeahlfmapacfaaDoor.Oct
