/-
  Layer 4 (frame): the sum, in Lean; 'Sum' and the reference's.
-/
import Derived.Test.YtchblcfbllcbmabSlices
import Derived.Test.YtchblcfbllcbmabChecked
import Derived.WalkSpells
import Derived.WalkLawsBesides
import Derived.Outline
namespace Go.Proofs.Ytchblcfbllcbmab.Oct
open Go.RowKit

def poly : UInt32 := 3988292384
def step (x : UInt32) : UInt32 := if x.toNat % 2 = 1 then UInt32.ofNat (x.toNat / 2) ^^^ poly else UInt32.ofNat (x.toNat / 2)
def steps (x : UInt32) : Nat → UInt32
  | 0 => x
  | n + 1 => step (steps x n)
def upd (x : UInt32) (c : UInt8) : UInt32 := steps (x ^^^ UInt32.ofNat c.toNat) 8
def crcW (l : List UInt8) : UInt32 := l.foldl upd 4294967295
def crc (l : List UInt8) : UInt32 := crcW l ^^^ 4294967295
theorem crcW_take {l : List UInt8} {t : Nat} (h : t < l.length) : crcW (l.take (t + 1)) = upd (crcW (l.take t)) l[t] := by
  rw [List.take_succ_eq_append_getElem h, crcW, List.foldl_append]; rfl

theorem toNat32 {n : Nat} (h : n < 4294967296) : (UInt32.ofNat n).toNat = n := by
  rw [UInt32.toNat_ofNat']; omega
theorem lt32 (x : UInt32) : x.toNat < 4294967296 := x.toNat_lt
theorem xor_eq (x y : UInt32) : bits BinOp.xor IntKind.u32 (x.toNat : Int) (y.toNat : Int) = ((x ^^^ y).toNat : Int) := by
  rw [u32_xor_nat _ _ (lt32 x) (lt32 y), UInt32.toNat_xor]
theorem xor_byte (x : UInt32) (c : UInt8) : bits BinOp.xor IntKind.u32 (x.toNat : Int) (c.toNat : Int) = ((x ^^^ UInt32.ofNat c.toNat).toNat : Int) := by
  have e := xor_eq x (UInt32.ofNat c.toNat)
  rw [toNat32 (by have := c.toNat_lt; omega)] at e
  exact e
theorem xor_all (x : UInt32) : bits BinOp.xor IntKind.u32 (x.toNat : Int) 4294967295 = ((x ^^^ 4294967295).toNat : Int) := xor_eq x 4294967295
theorem xor_poly (x : UInt32) : bits BinOp.xor IntKind.u32 (x.toNat : Int) 3988292384 = ((x ^^^ poly).toNat : Int) := xor_eq x poly

theorem half_eq (x : UInt32) : (x.toNat : Int) / 2 = ((UInt32.ofNat (x.toNat / 2)).toNat : Int) := by
  rw [toNat32 (by have := lt32 x; omega)]; omega
theorem step_odd {x : UInt32} (h : x.toNat % 2 = 1) : step x = UInt32.ofNat (x.toNat / 2) ^^^ poly := if_pos h
theorem step_even {x : UInt32} (h : ¬ x.toNat % 2 = 1) : step x = UInt32.ofNat (x.toNat / 2) := if_neg h

set_option maxHeartbeats 400000 in
theorem refSum_is (l : List UInt8) (a : Option Addr) (n cp : Nat) (w : World) (hl : In w a n cp l) :
    Calls Try.prog 16 #[.slice a n cp] w fun e w' => e = .returned (.int .u32 ((crc l).toNat : Int)) ∧ w = w' := by
  have HL : Hid (In w a n cp l) := hl
  have HLL : Hid (l.length = n) := hl.1
  have b1 := hl.2.2.1
  clear hl
  go_enter Try.func16, Try.ntmps16
  go_wp2_with fail
  go_loopw [4, 3] (fun i v wr => ∃ (t : Nat) (x : UInt32), i = .int .i64 t ∧ t ≤ n ∧ v = .int .u32 (x.toNat : Int) ∧ Hid (x = crcW (l.take t)) ∧ w = wr) (fun i _ _ => n - (intOf i).toNat)
  case atStart => exact ⟨0, 4294967295, rfl, by omega, rfl, rfl, rfl⟩
  case round =>
    obtain ⟨t, x, rfl, ht, rfl, hx, rfl⟩ := hrel
    by_cases hlt : t = n
    · subst hlt
      have hxx := xor_all x
      have HX : Hid (x ^^^ 4294967295 = crc l) := by
        show _ = _
        rw [hx.out, List.take_of_length_le (by rw [HLL.out]; exact Nat.le_refl _)]; rfl
      go_wp2
      go_ret
      refine ⟨?_, rfl⟩
      rw [← HX.out]
      rfl
    · have q1 : (t : Int) < (n : Int) := by omega
      have HT : Hid (t < n) := by show t < n; omega
      obtain ⟨ba, oa, rfl, ha1, ha2⟩ := HL.out.2.2.2.2 (by omega)
      have htl : t < l.length := by rw [HLL.out]; exact HT.out
      obtain ⟨c, hc⟩ : ∃ c, c = l[t] := ⟨_, rfl⟩
      have c1 : w.cell? ⟨ba, oa + t, none⟩ = some (.int .u8 (c.toNat : Int)) := ha2 t _ (by rw [List.getElem?_eq_getElem htl, hc])
      have HNX : Hid (crcW (l.take (t + 1)) = steps (x ^^^ UInt32.ofNat c.toNat) 8) := by
        show _ = _
        rw [crcW_take htl, ← hc, ← hx.out]; rfl
      have hxb := xor_byte x c
      have hc2 : (c.toNat : Int) < 256 := by have := c.toNat_lt; omega
      generalize x ^^^ UInt32.ofNat c.toNat = y at HNX hxb
      clear ha2 hlt hc htl
      go_wp2_with fail
      go_loopw [5, 3] (fun i v wr => ∃ (k : Nat) (z : UInt32), i = .int .i64 k ∧ k ≤ 8 ∧ v = .int .u32 (z.toNat : Int) ∧ Hid (z = steps y k) ∧ w = wr) (fun i _ _ => 8 - (intOf i).toNat)
      case atStart => exact ⟨0, y, rfl, by omega, rfl, rfl, rfl⟩
      case round =>
        obtain ⟨k, z, rfl, hk, rfl, hz, rfl⟩ := hrel
        by_cases hlt : k = 8
        · have q2 : (8 : Int) ≤ (k : Int) := by omega
          subst hlt
          go_wp2
          refine ⟨⟨t + 1, z, by simp, HT.out, rfl, ?_, trivial⟩, ?_⟩
          · show _ = _
            rw [HNX.out]; exact hz.out
          · have := HT.out
            simp only [intOf]
            omega
        · have q2 : (k : Int) < 8 := by omega
          have HK : Hid (k < 8) := by show k < 8; omega
          have hz2 := lt32 z
          have hh := half_eq z
          by_cases hodd : z.toNat % 2 = 1
          · have r1 : (z.toNat : Int) % 2 = 1 := by omega
            have HS : Hid (steps y (k + 1) = UInt32.ofNat (z.toNat / 2) ^^^ poly) := by show step (steps y k) = _; rw [← hz.out, step_odd hodd]
            generalize UInt32.ofNat (z.toNat / 2) = u at hh HS
            have hp := xor_poly u
            clear hodd hlt
            go_wp2
            refine ⟨⟨k + 1, u ^^^ poly, by simp, HK.out, rfl, HS.out.symm, trivial⟩, ?_⟩
            have := HK.out
            simp only [intOf]
            omega
          · have r1 : (z.toNat : Int) % 2 = 0 := by omega
            have HS : Hid (steps y (k + 1) = UInt32.ofNat (z.toNat / 2)) := by show step (steps y k) = _; rw [← hz.out, step_even hodd]
            generalize UInt32.ofNat (z.toNat / 2) = u at hh HS
            clear hodd hlt
            go_wp2
            refine ⟨⟨k + 1, u, by simp, HK.out, rfl, HS.out.symm, trivial⟩, ?_⟩
            have := HK.out
            simp only [intOf]
            omega
#print axioms refSum_is

theorem impl_step (z : UInt32) : bits BinOp.xor IntKind.u32 ((z.toNat : Int) / 2) (bits BinOp.and IntKind.u32 3988292384 (-bits BinOp.and IntKind.u32 (z.toNat : Int) 1 % 4294967296)) = ((step z).toNat : Int) := by
  have e1 : bits BinOp.and IntKind.u32 (z.toNat : Int) 1 = ((z.toNat % 2 : Nat) : Int) := by
    rw [show (1 : Int) = ((1 : Nat) : Int) from rfl, u32_and_nat _ _ (lt32 z) (by omega), Nat.and_one_is_mod]
  rw [e1, half_eq]
  by_cases h : z.toNat % 2 = 1
  · rw [h, step_odd h, show -(((1 : Nat) : Int)) % 4294967296 = ((4294967295 : Nat) : Int) by decide, show (3988292384 : Int) = ((3988292384 : Nat) : Int) from rfl, u32_and_nat _ _ (by omega) (by omega), show (3988292384 &&& 4294967295 : Nat) = 3988292384 by decide]
    exact xor_poly _
  · rw [show z.toNat % 2 = 0 by omega, step_even h, show -(((0 : Nat) : Int)) % 4294967296 = ((0 : Nat) : Int) by decide, show (3988292384 : Int) = ((3988292384 : Nat) : Int) from rfl, u32_and_nat _ _ (by omega) (by omega), Nat.and_zero, u32_xor_nat _ _ (lt32 _) (by omega), Nat.xor_zero]

set_option maxHeartbeats 400000 in
theorem sum_is (l : List UInt8) (a : Option Addr) (n cp : Nat) (w : World) (hl : In w a n cp l) :
    Calls Try.prog 12 #[.slice a n cp] w fun e w' => e = .returned (.int .u32 ((crc l).toNat : Int)) ∧ w = w' := by
  have HL : Hid (In w a n cp l) := hl
  have HLL : Hid (l.length = n) := hl.1
  have b1 := hl.2.2.1
  clear hl
  go_enter Try.func12, Try.ntmps12
  go_wp2_with fail
  go_loopw [9, 3] (fun i v wr => ∃ (t : Nat) (x : UInt32), i = .int .i64 t ∧ t ≤ n ∧ v = .int .u32 (x.toNat : Int) ∧ Hid (x = crcW (l.take t)) ∧ w = wr) (fun i _ _ => n - (intOf i).toNat)
  case atStart => exact ⟨0, 4294967295, rfl, by omega, rfl, rfl, rfl⟩
  case round =>
    obtain ⟨t, x, rfl, ht, rfl, hx, rfl⟩ := hrel
    by_cases hlt : t = n
    · subst hlt
      have hxx := xor_all x
      have HX : Hid (x ^^^ 4294967295 = crc l) := by
        show _ = _
        rw [hx.out, List.take_of_length_le (by rw [HLL.out]; exact Nat.le_refl _)]; rfl
      go_wp2
      go_ret
      refine ⟨?_, rfl⟩
      rw [← HX.out]
      rfl
    · have q1 : (t : Int) < (n : Int) := by omega
      have HT : Hid (t < n) := by show t < n; omega
      obtain ⟨ba, oa, rfl, ha1, ha2⟩ := HL.out.2.2.2.2 (by omega)
      have htl : t < l.length := by rw [HLL.out]; exact HT.out
      obtain ⟨c, hc⟩ : ∃ c, c = l[t] := ⟨_, rfl⟩
      have c1 : w.cell? ⟨ba, oa + t, none⟩ = some (.int .u8 (c.toNat : Int)) := ha2 t _ (by rw [List.getElem?_eq_getElem htl, hc])
      have HNX : Hid (crcW (l.take (t + 1)) = steps (x ^^^ UInt32.ofNat c.toNat) 8) := by
        show _ = _
        rw [crcW_take htl, ← hc, ← hx.out]; rfl
      have hxb := xor_byte x c
      have hc2 : (c.toNat : Int) < 256 := by have := c.toNat_lt; omega
      generalize x ^^^ UInt32.ofNat c.toNat = y at HNX hxb
      clear ha2 hlt hc htl
      go_wp2_with fail
      go_loopw [17, 3] (fun i v wr => ∃ (k : Nat) (z : UInt32), i = .int .i64 k ∧ k ≤ 8 ∧ v = .int .u32 (z.toNat : Int) ∧ Hid (z = steps y k) ∧ w = wr) (fun i _ _ => 8 - (intOf i).toNat)
      case atStart => exact ⟨0, y, rfl, by omega, rfl, rfl, rfl⟩
      case round =>
        obtain ⟨k, z, rfl, hk, rfl, hz, rfl⟩ := hrel
        by_cases hlt : k = 8
        · have q2 : (8 : Int) ≤ (k : Int) := by omega
          subst hlt
          go_wp2
          refine ⟨⟨t + 1, z, by simp, HT.out, rfl, ?_, trivial⟩, ?_⟩
          · show _ = _
            rw [HNX.out]; exact hz.out
          · have := HT.out
            simp only [intOf]
            omega
        · have q2 : (k : Int) < 8 := by omega
          have HK : Hid (k < 8) := by show k < 8; omega
          have hz2 := lt32 z
          go_wp2
          refine ⟨⟨k + 1, step z, by simp, HK.out, congrArg (Value.int IntKind.u32) (impl_step z), ?_, trivial⟩, ?_⟩
          · show _ = step (steps y k)
            rw [← hz.out]
          · have := HK.out
            simp only [intOf]
            omega
#print axioms sum_is

end Go.Proofs.Ytchblcfbllcbmab.Oct
