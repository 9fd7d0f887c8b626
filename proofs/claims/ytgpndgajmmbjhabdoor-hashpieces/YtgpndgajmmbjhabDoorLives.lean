/-
  Layer 2 (hash): 'lives' is true.
-/
import Derived.Test.YtgpndgajmmbjhabDoorSum
import Derived.Test.YtgpndgajmmbjhabDoorArgs
import Derived.Lib.SlBytesConst
namespace Go.Proofs.YtgpndgajmmbjhabDoor.Oct
open Go.RowKit Sha

theorem in_const (w : World) (e : TypeId) (l : List UInt8) (fr : Nat × Nat) (hl : l.length ≤ 140737488355328) : In (w.alloc (.cells (U l).toArray e fr)) (some ⟨w.heap.size, 0, none⟩) l.length l.length l := by
  refine ⟨rfl, Nat.le_refl _, hl, by simp, fun _ => ⟨w.heap.size, 0, rfl, by simp, fun i c hc => ?_⟩⟩
  rw [Nat.zero_add, cell_of_row _ w.heap.size i _ e fr (heap_alloc_new _ _), List.getElem?_toArray]
  simp [U, hc]

theorem sum_get (l : List UInt8) (i : Nat) (x : UInt8) (h : (sum l)[i]? = some x) : (U (sum l))[i]? = some (.int .u8 (x.toNat : Int)) := by simp [U, h]

theorem stored {w : World} {b : Nat} {cells : List Value} (hl : cells.length = 32) (h : Blk w b 25 ((zb 32).take 0 ++ cells ++ (zb 32).drop (0 + cells.length))) : Blk w b 25 cells := by
  rw [List.drop_eq_nil_of_le (by rw [zb_length]; omega)] at h
  simpa using h

/-- a digest as a letter -/
theorem sum_is' (l D : List UInt8) (hD : sum l = D) (a : Option Addr) (len cap : Nat) (w : World) (hk : KT w) (hs : ST w) (hin : In w a len cap l) (hl : len < 900000000000) :
    Calls Tryd.prog 9 #[.slice a len cap] w fun e w' => e = .returned (.agg (U D).toArray) ∧ Hid (Below w.heap.size w w') := by
  subst hD
  exact (sum_is l a len cap w hk hs hin hl).mono fun _ _ h => h

/-- the digests that everybody knows -/
theorem known : ∃ D0 D1 : List UInt8, sum [] = D0 ∧ sum [97, 98, 99] = D1 ∧ D0.length = 32 ∧ D1.length = 32 ∧ D0[0]? = some 227 ∧ D0[31]? = some 85 ∧ D1[0]? = some 186 ∧ D1[31]? = some 173 :=
  ⟨_, _, sum_nil, sum_abc, rfl, rfl, rfl, rfl, rfl, rfl⟩

set_option maxHeartbeats 400000 in
set_option maxRecDepth 100000 in
theorem lives_is (w : World) (hk : KT w) (hs : ST w) : Calls Tryd.prog 8 #[] w fun e w' => e = .returned (.bool true) ∧ Below w.heap.size w w' := by
  have HK : Hid (KT w) := hk
  have HS : Hid (ST w) := hs
  obtain ⟨D0, D1, hD0, hD1, hl0, hl1, h00, h01, h10, h11⟩ := known
  have HD0 : Hid (sum [] = D0) := hD0
  have HD1 : Hid (sum [97, 98, 99] = D1) := hD1
  have HL0 : Hid ((U D0).length = 32) := by show _ = _; rw [U_length, hl0]
  have HL1 : Hid ((U D1).length = 32) := by show _ = _; rw [U_length, hl1]
  have H00 : Hid ((U D0)[0]? = some (.int .u8 227)) := by show _ = _; simp [U, h00]
  have H01 : Hid ((U D0)[31]? = some (.int .u8 85)) := by show _ = _; simp [U, h01]
  have H10 : Hid ((U D1)[0]? = some (.int .u8 186)) := by show _ = _; simp [U, h10]
  have H11 : Hid ((U D1)[31]? = some (.int .u8 173)) := by show _ = _; simp [U, h11]
  clear hk hs hD0 hD1 hl0 hl1 h00 h01 h10 h11
  go_enter Tryd.func8, Tryd.ntmps8
  go_wp2_with fail
  refine (sum_is' [] D0 HD0.out none 0 0 w HK.out HS.out (In.nil w) (by omega)).mono ?_
  rintro e w1 ⟨rfl, HW1⟩
  have hcv := Lib.run_convert_bytes_const (P := Tryd.prog) w1 22 5 #[.int .u8 97, .int .u8 98, .int .u8 99] 3 3 Tryd.underlying22 Tryd.underlying5
  go_wp2_with fail
  have HIN : Hid (In (w1.alloc (.cells (U [97, 98, 99]).toArray 5 (3, 4))) (some ⟨w1.heap.size, 0, none⟩) 3 3 [97, 98, 99]) := in_const w1 5 [97, 98, 99] (3, 4) (by simp)
  have HWA : Hid (Below w.heap.size w (w1.alloc (.cells (U [97, 98, 99]).toArray 5 (3, 4)))) := HW1.out.alloc HW1.out.size _
  clear hcv
  change Calls Tryd.prog 9 _ (w1.alloc (.cells (U [97, 98, 99]).toArray 5 (3, 4))) _
  generalize w1.alloc (.cells (U [97, 98, 99]).toArray 5 (3, 4)) = WA at *
  refine (sum_is' [97, 98, 99] D1 HD1.out _ 3 3 WA (HK.out.below HWA.out) (HS.out.below HWA.out) HIN.out (by omega)).mono ?_
  rintro e w2 ⟨rfl, HW2⟩
  have HA : Hid (Blk ((w2.alloc (.cells (zb 32).toArray 25)).alloc (.cells (zb 32).toArray 25)) w2.heap.size 25 (zb 32)) := (Blk.new w2 _ 25).alloc _
  have HB : Hid (Blk ((w2.alloc (.cells (zb 32).toArray 25)).alloc (.cells (zb 32).toArray 25)) (w2.heap.size + 1) 25 (zb 32)) := by
    have e := Blk.new (w2.alloc (.cells (zb 32).toArray 25)) (zb 32).toArray 25
    rw [show (w2.alloc (.cells (zb 32).toArray 25)).heap.size = w2.heap.size + 1 by simp] at e
    exact e
  go_wp2_with (first
    | (refine wpList_store_blk rfl 25 (.tmp 1) (.tmp 3) rfl w2.heap.size 0 25 (zb 32) (U D0) rfl rfl HA.out (by rw [HL0.out, zb_length]; omega) (by rw [size25, HL0.out]) (U_one _) ?_; intro w3 hB3 hG3)
    | (refine wpList_store_blk rfl 25 (.tmp 2) (.tmp 6) rfl (w2.heap.size + 1) 0 25 (zb 32) (U D1) rfl rfl (HB.out.kept hG3.out (by intro e; have := Option.some.inj e; omega)) (by rw [HL1.out, zb_length]; omega) (by rw [size25, HL1.out]) (U_one _) ?_; intro w4 hB4 hG4; have HC : Hid (Blk w4 w2.heap.size 25 (U D0)) := (stored HL0.out hB3.out).kept hG4.out (by intro e; have := Option.some.inj e; omega); have HD : Hid (Blk w4 (w2.heap.size + 1) 25 (U D1)) := stored HL1.out hB4.out; have c1 : w4.cell? ⟨w2.heap.size, 0, none⟩ = some (.int .u8 227) := HC.out.cell H00.out; have c2 : w4.cell? ⟨w2.heap.size, 31, none⟩ = some (.int .u8 85) := HC.out.cell H01.out; have c3 : w4.cell? ⟨w2.heap.size + 1, 0, none⟩ = some (.int .u8 186) := HD.out.cell H10.out; have c4 : w4.cell? ⟨w2.heap.size + 1, 31, none⟩ = some (.int .u8 173) := HD.out.cell H11.out))
  go_ret
  refine ⟨rfl, ?_⟩
  have h1 := HWA.out.size
  have h2 := HW2.out.size
  have e1 := HWA.out.trans (HW2.out.mono h1)
  have e2 := (e1.alloc (by omega) (.cells (zb 32).toArray 25)).alloc (by simp; omega) (.cells (zb 32).toArray 25)
  have h3 := hG3.out.size
  simp only [World.size_alloc] at h3
  exact (e2.grown hG3.out (by simp; omega) (by intro k hk; have := Option.some.inj hk; omega)).grown hG4.out (by omega) (by intro k hk; have := Option.some.inj hk; omega)

#print axioms lives_is
end Go.Proofs.YtgpndgajmmbjhabDoor.Oct
