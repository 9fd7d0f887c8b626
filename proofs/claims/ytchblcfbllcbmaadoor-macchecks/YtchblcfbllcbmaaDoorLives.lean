/-
  Layer 3 (mac): 'lives' is true.
-/
import Derived.Test.YtchblcfbllcbmaaDoorTagAll
namespace Go.Proofs.YtchblcfbllcbmaaDoor.Oct
open Go.RowKit Sha

theorem take_two {L : List UInt8} {x y : UInt8} (h : L.take 2 = [x, y]) : L[0]? = some x ∧ L[1]? = some y := by
  cases L with
  | nil => cases h
  | cons a L =>
    cases L with
    | nil => cases h
    | cons b L =>
      simp at h
      simp [h]
theorem jefe_known : ∃ D : List UInt8, tagOf jefe whatDo = D ∧ D.length = 32 ∧ D[0]? = some 91 ∧ D[1]? = some 220 ∧ D[31]? = some 67 :=
  ⟨_, rfl, tagOf_len _ _, (take_two tag_jefe.1).1, (take_two tag_jefe.1).2, tag_jefe.2⟩

set_option maxHeartbeats 1000000 in
set_option maxRecDepth 100000 in
theorem lives_is (w : World) (hk : KT w) (hs : ST w) : Calls Tryd.prog 7 #[] w fun e w' => e = .returned (.bool true) ∧ Hid (Below w.heap.size w w') := by
  have HK : Hid (KT w) := hk
  have HS : Hid (ST w) := hs
  obtain ⟨D, hD, hl, h0, h1, h31⟩ := jefe_known
  have HD : Hid (tagOf jefe whatDo = D) := hD
  have HL : Hid ((U D).length = 32) := by show _ = _; rw [U_length, hl]
  have H0 : Hid ((U D)[0]? = some (.int .u8 91)) := by show _ = _; simp [U, h0]
  have H1 : Hid ((U D)[1]? = some (.int .u8 220)) := by show _ = _; simp [U, h1]
  have H31 : Hid ((U D)[31]? = some (.int .u8 67)) := by show _ = _; simp [U, h31]
  clear hk hs hD hl h0 h1 h31
  have hcv := Lib.run_convert_bytes_const (P := Tryd.prog) w 22 5 #[.int .u8 74, .int .u8 101, .int .u8 102, .int .u8 101] 4 4 Tryd.underlying22 Tryd.underlying5
  go_enter Tryd.func7, Tryd.ntmps7
  go_wp2_with (first
    | (with_reducible change wpList _ _ _ ({ dst := some 4, op := _, type := _, pos := _, after := _, guard := _ } :: _) _ (World.alloc w _)
       generalize hA : w.alloc _ = WA
       obtain ⟨HWA, HIA⟩ : Hid (Below w.heap.size w WA) ∧ Hid (In WA (some ⟨w.heap.size, 0, none⟩) 4 4 jefe) := by
         subst hA
         exact ⟨(Below.refl _ w).alloc (Nat.le_refl _) _, in_const w 5 jefe (4, 5) (by decide)⟩
       clear hcv hA
       have hcv := Lib.run_convert_bytes_const (P := Tryd.prog) WA 22 5 #[.int .u8 119, .int .u8 104, .int .u8 97, .int .u8 116, .int .u8 32, .int .u8 100, .int .u8 111, .int .u8 32, .int .u8 121, .int .u8 97, .int .u8 32, .int .u8 119, .int .u8 97, .int .u8 110, .int .u8 116, .int .u8 32, .int .u8 102, .int .u8 111, .int .u8 114, .int .u8 32, .int .u8 110, .int .u8 111, .int .u8 116, .int .u8 104, .int .u8 105, .int .u8 110, .int .u8 103, .int .u8 63] 28 28 Tryd.underlying22 Tryd.underlying5)
    | fail)
  generalize hA : WA.alloc _ = WB
  obtain ⟨HWB, HIB⟩ : Hid (Below WA.heap.size WA WB) ∧ Hid (In WB (some ⟨WA.heap.size, 0, none⟩) 28 28 whatDo) := by
    subst hA
    exact ⟨(Below.refl _ WA).alloc (Nat.le_refl _) _, in_const WA 5 whatDo (28, 29) (by decide)⟩
  clear hcv hA
  have HBW : Hid (Below w.heap.size w WB) := HWA.out.trans (HWB.out.mono HWA.out.size)
  refine (tag_is jefe whatDo D HD.out _ _ 4 28 4 28 WB (HK.out.below HBW.out) (HS.out.below HBW.out) (HIA.out.below HWB.out) HIB.out (by omega) (by omega)).mono ?_
  rintro e w2 ⟨rfl, HW2⟩
  go_wp2_with (first
    | (with_reducible change wpList _ _ _ ({ dst := none, op := Op.store 25 _ _, type := _, pos := _, after := _, guard := _ } :: _) _ _
       refine wpList_store_blk rfl 25 (.tmp 1) (.tmp 6) rfl w2.heap.size 0 25 (zb 32) (U D) rfl rfl (Blk.new w2 _ 25) (by rw [HL.out, zb_length]; omega) (by rw [size25, HL.out]) (U_one _) ?_
       intro w3 hB3 hG3
       have H3 : Hid (Blk w3 w2.heap.size 25 (U D) ∧ Below w2.heap.size w2 w3) := new25 HL.out hB3.out hG3.out
       have c1 : w3.cell? ⟨w2.heap.size, 0, none⟩ = some (.int .u8 91) := H3.out.1.cell H0.out
       have c2 : w3.cell? ⟨w2.heap.size, 1, none⟩ = some (.int .u8 220) := H3.out.1.cell H1.out
       have c3 : w3.cell? ⟨w2.heap.size, 31, none⟩ = some (.int .u8 67) := H3.out.1.cell H31.out
       clear hB3 hG3)
    | fail)
  go_ret
  have e1 := HBW.out.trans (HW2.out.mono HBW.out.size)
  exact ⟨rfl, e1.trans (H3.out.2.mono e1.size)⟩
#print axioms lives_is
end Go.Proofs.YtchblcfbllcbmaaDoor.Oct
