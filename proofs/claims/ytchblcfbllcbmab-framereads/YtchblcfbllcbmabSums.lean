/-
  Layer 4 (frame): 'lives' is true; the law on 'Sum'.
-/
import Derived.Test.YtchblcfbllcbmabFrameb
import Derived.Lib.SlBytesConst
namespace Go.Proofs.Ytchblcfbllcbmab.Oct
open Go.RowKit

theorem in_const (w : World) (e : TypeId) (l : List UInt8) (fr : Nat × Nat) (hl : l.length ≤ 140737488355328) : In (w.alloc (.cells (U l).toArray e fr)) (some ⟨w.heap.size, 0, none⟩) l.length l.length l := by
  refine ⟨rfl, Nat.le_refl _, hl, by simp, fun _ => ⟨w.heap.size, 0, rfl, by simp, fun i c hc => ?_⟩⟩
  rw [Nat.zero_add, cell_of_row _ w.heap.size i _ e fr (heap_alloc_new _ _), List.getElem?_toArray]
  simp [U, hc]
theorem crc_nine : (crc [49, 50, 51, 52, 53, 54, 55, 56, 57]).toNat = 3421780262 := by decide +kernel
theorem frame_none : frameOf [] = [0, 0, 0, 0, 0x21, 0x44, 0xdf, 0x1c, 0, 0, 0, 0] := by decide +kernel

set_option maxHeartbeats 400000 in
set_option maxRecDepth 100000 in
theorem lives_is (w : World) : Calls Try.prog 6 #[] w fun e w' => e = .returned (.bool true) ∧ Below w.heap.size w w' := by
  go_enter Try.func6, Try.ntmps6
  go_wp2_with fail
  refine (frame_is [] none 0 0 w (In.nil w) (by omega)).mono ?_
  rintro e w1 ⟨v1, rfl, ho1, hb1⟩
  rw [frame_none] at ho1
  obtain ⟨a1, c1, rfl, hin1, -⟩ := own_in ho1 (by simp)
  have HB1 : Hid (Below w.heap.size w w1) := hb1
  obtain ⟨b, off, rfl, hbl, hcell⟩ := hin1.2.2.2.2 (by simp)
  have c4 : w1.cell? ⟨b, off + 4, none⟩ = some (.int .u8 33) := hcell 4 _ rfl
  have HC4 : Hid (w1.cell? ⟨b, off + 4, none⟩ = some (.int .u8 33)) := c4
  have HBL : Hid (b < w1.heap.size) := hbl
  have hcv := Lib.run_convert_bytes_const (P := Try.prog) w1 22 5 #[.int .u8 49, .int .u8 50, .int .u8 51, .int .u8 52, .int .u8 53, .int .u8 54, .int .u8 55, .int .u8 56, .int .u8 57] 9 9 Try.underlying22 Try.underlying5
  have hcap := hin1.2.1
  simp only [List.length_cons, List.length_nil, Nat.reduceAdd] at hcap ⊢
  clear ho1 hb1 hin1 hcell hbl c4
  go_wp2_with fail
  have HIN : Hid (In (w1.alloc (.cells (U [49, 50, 51, 52, 53, 54, 55, 56, 57]).toArray 5 (9, 10))) (some ⟨w1.heap.size, 0, none⟩) 9 9 [49, 50, 51, 52, 53, 54, 55, 56, 57]) := in_const w1 5 [49, 50, 51, 52, 53, 54, 55, 56, 57] (9, 10) (by simp)
  have HWA : Hid (Below w1.heap.size w1 (w1.alloc (.cells (U [49, 50, 51, 52, 53, 54, 55, 56, 57]).toArray 5 (9, 10)))) := (Below.refl _ w1).alloc (Nat.le_refl _) _
  clear hcv
  change Calls Try.prog 12 _ (w1.alloc (.cells (U [49, 50, 51, 52, 53, 54, 55, 56, 57]).toArray 5 (9, 10))) _
  generalize w1.alloc (.cells (U [49, 50, 51, 52, 53, 54, 55, 56, 57]).toArray 5 (9, 10)) = WA at *
  refine (sum_is _ _ 9 9 WA HIN.out).mono ?_
  rintro e w2 ⟨rfl, rfl⟩
  rw [crc_nine]
  have d4 : WA.cell? ⟨b, off + 4, none⟩ = some (.int .u8 33) := (HWA.out.cell (p := ⟨b, off + 4, none⟩) HBL.out).trans HC4.out
  go_wp2
  go_ret
  exact ⟨rfl, HB1.out.trans (HWA.out.mono HB1.out.size)⟩

#print axioms lives_is
end Go.Proofs.Ytchblcfbllcbmab.Oct
