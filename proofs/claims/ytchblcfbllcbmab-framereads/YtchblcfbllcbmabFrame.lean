/-
  Layer 4 (frame): numbers in four bytes, and a frame, in Lean; 'appendNumber', 'Frame'.
-/
import Derived.Test.YtchblcfbllcbmabCrc
namespace Go.Proofs.Ytchblcfbllcbmab.Oct
open Go.RowKit

def be4 (n : Nat) : List UInt8 := [UInt8.ofNat (n / 16777216), UInt8.ofNat (n / 65536), UInt8.ofNat (n / 256), UInt8.ofNat n]
def frameOf (b : List UInt8) : List UInt8 := be4 b.length ++ be4 (crc (be4 b.length)).toNat ++ b ++ be4 (crc b).toNat
theorem be_byte (n : Nat) : (n : Int) % 256 = ((UInt8.ofNat n).toNat : Int) := by rw [UInt8.toNat_ofNat']; omega
theorem be_byte24 (n : Nat) : (n : Int) / 16777216 % 256 = ((UInt8.ofNat (n / 16777216)).toNat : Int) := by rw [← be_byte]; omega
theorem be_byte16 (n : Nat) : (n : Int) / 65536 % 256 = ((UInt8.ofNat (n / 65536)).toNat : Int) := by rw [← be_byte]; omega
theorem be_byte8 (n : Nat) : (n : Int) / 256 % 256 = ((UInt8.ofNat (n / 256)).toNat : Int) := by rw [← be_byte]; omega
theorem be4_length (n : Nat) : (be4 n).length = 4 := rfl
theorem be4_next (n t k : Nat) (bt : UInt8) (ht : t < 4) (hk : k = 8 * (3 - t)) (hbt : bt = UInt8.ofNat (n / 2 ^ k)) : (be4 n).take (t + 1) = (be4 n).take t ++ [bt] := by
  have hcase : t = 0 ∨ t = 1 ∨ t = 2 ∨ t = 3 := by omega
  subst hk hbt
  rcases hcase with rfl | rfl | rfl | rfl
  · rfl
  · rfl
  · rfl
  · simp [be4]
theorem info5 : (Try.prog.info? 5).map (fun i => (i.zero, i.size, i.bytes)) = some (some (.int .u8 0), 1, 1) := by kernel_rfl
theorem info_parts {P : Program} {t : TypeId} {z : Value} {a b : Nat} (h : (P.info? t).map (fun i => (i.zero, i.size, i.bytes)) = some (some z, a, b)) : ∃ i, P.info? t = some i ∧ i.zero = some z ∧ i.size = a ∧ i.bytes = b := by
  obtain ⟨i, hi, hs⟩ := Option.map_eq_some_iff.1 h
  simp only [Prod.mk.injEq] at hs
  exact ⟨i, hi, hs.1, hs.2.1, hs.2.2⟩

set_option maxHeartbeats 1000000 in
set_option maxRecDepth 100000 in
theorem number_is (n : Nat) (hn : n < 4294967296) (v : Value) (r : List UInt8) (B : Nat) (w : World) (hown : Own 5 B w v r) (hB : B ≤ w.heap.size) (hl : r.length ≤ 1000000) :
    Calls Try.prog 19 #[v, .int .u32 (n : Int)] w fun e w' => ∃ v', e = .returned v' ∧ Own 5 B w' v' (r ++ be4 n) ∧ Below B w w' := by
  obtain ⟨i0, hi, hz0, hz1, hz2⟩ := info_parts info5
  have HO : Hid (Own 5 B w v r) := hown
  have HB : Hid (B ≤ w.heap.size) := hB
  have HL : Hid (r.length ≤ 1000000) := hl
  have q0 : (n : Int) < 4294967296 := by omega
  clear hown hB hl
  go_enter Try.func19, Try.ntmps19
  go_wp2_with fail
  go_loopw [6, 0] (fun i u wr => ∃ t : Nat, i = .int .i64 t ∧ t ≤ 4 ∧ Hid (Own 5 B wr u (r ++ (be4 n).take t)) ∧ Hid (Below B w wr)) (fun i _ _ => 4 - (intOf i).toNat)
  case atStart => exact ⟨0, rfl, by omega, by rw [List.take_zero, List.append_nil]; exact HO.out, Below.refl _ _⟩
  case round =>
    obtain ⟨t, rfl, ht, ho, hb⟩ := hrel
    by_cases hlt : t = 4
    · have q1 : (4 : Int) ≤ (t : Int) := by omega
      subst hlt
      go_wp2
      go_ret
      exact ⟨_, rfl, ho.out, hb.out⟩
    · have q1 : (t : Int) < 4 := by omega
      have HT : Hid (t < 4) := by show t < 4; omega
      obtain ⟨k, hk⟩ : ∃ k, k = 8 * (3 - t) := ⟨_, rfl⟩
      have q2 : 8 * (3 - (t : Int)) = (k : Int) := by omega
      have q3 : (k : Int) ≤ 24 := by omega
      have q4 : k ≤ 24 := by omega
      obtain ⟨bt, hbt⟩ : ∃ bt, bt = UInt8.ofNat (n / 2 ^ k) := ⟨_, rfl⟩
      have HNX : Hid ((be4 n).take (t + 1) = (be4 n).take t ++ [bt]) := be4_next n t k bt HT.out hk hbt
      have hv : (n : Int) / 2 ^ k % 256 = (bt.toNat : Int) := by rw [hbt, ← be_byte]; simp
      have HLN : Hid ((r ++ (be4 n).take t).length = r.length + t) := by
        show _ = _
        rw [List.length_append, List.length_take, be4_length]; have := HT.out; omega
      clear hk hbt hlt
      have HI : Hid (In (wr.alloc (.cells (U [bt]).toArray 5)) (some ⟨wr.heap.size, 0, none⟩) 1 1 [bt]) := in_new wr 5 [bt] (by simp)
      have HOO : Hid ((wr.alloc (.cells (U [bt]).toArray 5)).ownsRow B 5 1 u0 (r.length + t) (U (r ++ (be4 n).take t))) := World.ownsRow.alloc (show wr.ownsRow B 5 1 u0 (r.length + t) (U (r ++ (be4 n).take t)) from own_size HLN.out ho.out) _
      go_wp2_with (at_builtin; refine wpList_append_in _ rfl (.tmp 9) (.tmp 16) 22 rfl B 5 i0 Try.underlying22 hi hz0 hz1 hz2 u0 (r ++ (be4 n).take t) (r.length + t) HLN.out rfl HOO.out (some ⟨wr.heap.size, 0, none⟩) 1 1 [bt] rfl HI.out (by have := HL.out; have := HT.out; omega) (by have := HB.out; have := hb.out.size; simp; omega) ?_; intro v' w' ho' hg'; have HOX : Hid (Own 5 B w' v' (r ++ (be4 n).take (t + 1))) := (by rw [HNX.out, ← List.append_assoc]; exact ho'); have HBX : Hid (Below B w w') := (hb.out.alloc (by have := HB.out; have := hb.out.size; omega) _).grown hg' (by have := HB.out; have := hb.out.size; simp; omega) (by intro b hb; exact (HOO.out.lt b hb).1); clear ho' hg')
      refine ⟨⟨t + 1, by simp, HT.out, HOX, HBX⟩, ?_⟩
      have := HT.out
      simp only [intOf]
      omega
#print axioms number_is
end Go.Proofs.Ytchblcfbllcbmab.Oct
