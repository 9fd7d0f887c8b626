/-
  Layer 3 (mac): the reference's 'Tag'.
-/
import Derived.Test.YtjeahlfmapacfaaDoorRefMac
import Derived.Deep.RegionHeldLaw
namespace Go.Proofs.YtjeahlfmapacfaaDoor.Oct
open Go.RowKit Sha

theorem undrew {B : Nat} {w w' : World} (h : Below B w.drew w') : Below B w w' := ⟨h.os, h.tape, h.output, h.size, h.block⟩

set_option maxHeartbeats 1000000 in
set_option maxRecDepth 100000 in
theorem refTag_is (key msg T : List UInt8) (hT : tagOf key msg = T) (a b : Option Addr) (n m cp cq : Nat) (w : World) (hl : In w a n cp key) (hr : In w b m cq msg) (hn : n ≤ 50000) (hm : m ≤ 50000) :
    Calls Tryd.prog 26 #[.slice a n cp, .slice b m cq] w fun e w' => e = .returned (.agg (U T).toArray) ∧ Hid (Below w.heap.size w w') := by
  obtain ⟨i0, hi, hz0, hz1, hz2⟩ := info_parts info5
  have HL : Hid (In w a n cp key) := hl
  have HR : Hid (In w b m cq msg) := hr
  have HRL : Hid (msg.length = m) := hr.1
  have HN : Hid (n ≤ 50000) := hn
  have HM : Hid (m ≤ 50000) := hm
  obtain ⟨B, hB⟩ : ∃ B, Sha.blk key = B := ⟨_, rfl⟩
  obtain ⟨D, hD⟩ : ∃ D, sum (xored B 0x36 ++ msg) = D := ⟨_, rfl⟩
  have hT2 : sum (xored B 0x5c ++ D) = T := by rw [← hT, ← hD, ← hB]; rfl
  have HB : Hid (Sha.blk key = B) := hB
  have HBL : Hid (B.length = 64) := by show _ = _; rw [← hB]; exact blk_len key
  have HDL : Hid (D.length = 32) := by show _ = _; rw [← hD]; exact sum_length _
  have HUD : Hid ((U D).length = 32) := by show _ = _; rw [U_length]; exact HDL.out
  have HUT : Hid ((U T).length = 32) := by show _ = _; rw [U_length, ← hT2]; exact sum_length _
  obtain ⟨X, hX⟩ : ∃ X, xored B 0x36 = X := ⟨_, rfl⟩
  obtain ⟨Y, hY⟩ : ∃ Y, xored B 0x5c = Y := ⟨_, rfl⟩
  have HXL : Hid (X.length = 64) := by show _ = _; rw [← hX, xored_len]; exact HBL.out
  have HYL : Hid (Y.length = 64) := by show _ = _; rw [← hY, xored_len]; exact HBL.out
  rw [hX] at hD
  rw [hY] at hT2
  have HD : Hid (sum (X ++ msg) = D) := hD
  have HT : Hid (sum (Y ++ D) = T) := hT2
  have HX : Hid (xored B 0x36 = X) := hX
  have HY : Hid (xored B 0x5c = Y) := hY
  have h25 := slice25
  clear hl hr hn hm hB hD hT hT2 hX hY
  go_enter Tryd.func26, Tryd.ntmps26
  go_wp2_with fail
  generalize hW1 : w.alloc _ = W1
  obtain ⟨HR1, HS1, HW1⟩ : Hid (Blk W1 w.heap.size 67 (zb 32)) ∧ Hid (W1.heap.size = w.heap.size + 1) ∧ Hid (Below w.heap.size w W1) := by
    subst hW1
    exact ⟨Blk.new w _ 67, show _ = _ by simp, (Below.refl _ w).alloc (Nat.le_refl _) _⟩
  clear hW1
  refine (block_is' key B HB.out a n cp W1 (HL.out.below HW1.out) (by have := HN.out; omega)).mono ?_
  rintro e w2 ⟨v2, rfl, HO2, HW2⟩
  obtain ⟨a2, c2, rfl, hin2, -⟩ := own_in HO2.out (by rw [HBL.out]; omega)
  rw [HBL.out] at hin2 ⊢
  have HI2 : Hid (In w2 a2 64 c2 B) := hin2
  have HBW2 : Hid (Below w.heap.size w w2) := HW1.out.trans (HW2.out.mono (by have := HS1.out; omega))
  clear hin2 HO2
  go_wp2_with fail
  refine (xored_is B 0x36 a2 64 c2 w2 HI2.out (by omega)).mono ?_
  rintro e w3 ⟨v3, rfl, HO3, HW3⟩
  rw [HX.out] at HO3
  have HBW3 : Hid (Below w.heap.size w w3) := HBW2.out.trans (HW3.out.mono HBW2.out.size)
  have hown3 := own_size HXL.out HO3.out
  obtain ⟨a3, c3, hv3, -, -⟩ := own_in HO3.out (by rw [HXL.out]; omega)
  rw [HXL.out] at hv3
  subst hv3
  have HOW3 : Hid (w3.ownsRow w2.heap.size 5 1 (.slice a3 64 c3) 64 (U X)) := hown3
  clear hown3
  go_wp2_with (at_builtin; refine wpList_append_in _ rfl (.tmp 10) (.tmp 11) 22 rfl w2.heap.size 5 i0 Tryd.underlying22 hi hz0 hz1 hz2 _ X 64 HXL.out rfl HOW3.out b m cq msg rfl (HR.out.below HBW3.out) (by have := HM.out; omega) HW3.out.size ?_; intro v4 w4 ho4 hg4)
  have HB4 : Hid (Below w2.heap.size w2 w4) := HW3.out.grown hg4 HW3.out.size (by intro b hb; exact (HOW3.out.lt b hb).1)
  have HXM : Hid ((X ++ msg).length = 64 + m) := by show _ = _; rw [List.length_append, HXL.out, HRL.out]
  obtain ⟨a4, c4, hv4, hin4, -⟩ := own_in ho4 (by rw [HXM.out]; have := HM.out; omega)
  rw [HXM.out] at hv4 hin4
  subst hv4
  have HI4 : Hid (In w4 a4 (64 + m) c4 (X ++ msg)) := hin4
  have HBW4 : Hid (Below w.heap.size w w4) := HBW2.out.trans (HB4.out.mono HBW2.out.size)
  clear ho4 hg4 hin4
  go_wp2_with fail
  refine (refIs (X ++ msg) D HD.out a4 (64 + m) c4 w4 HI4.out (by have := HM.out; omega)).mono ?_
  rintro e w5 ⟨rfl, HW5⟩
  have HBW5 : Hid (Below w.heap.size w w5) := HBW4.out.trans (HW5.out.mono HBW4.out.size)
  go_wp2_with (first
    | (with_reducible change wpList _ _ _ ({ dst := none, op := Op.store 67 (.tmp 6) _, type := _, pos := _, after := _, guard := _ } :: _) _ _
       refine wpList_store_blk rfl 67 (.tmp 6) (.tmp 13) rfl w5.heap.size 0 67 (zb 32) (U D) rfl rfl (Blk.new w5 _ 67) (by rw [HUD.out, zb_length]; omega) (by rw [size25, HUD.out]) (U_one _) ?_
       intro w6 hB6 hG6
       have H6 : Hid (Blk w6 w5.heap.size 67 (U D) ∧ Below w5.heap.size w5 w6) := new25 HUD.out hB6.out hG6.out
       clear hB6 hG6)
    | fail)
  have HW6 : Hid (Below w2.heap.size w2 w6) := (HB4.out.trans (HW5.out.mono HB4.out.size)).trans (H6.out.2.mono (by have := HW5.out.size; have := HB4.out.size; omega))
  have HBW6 : Hid (Below w.heap.size w w6) := HBW5.out.trans (H6.out.2.mono HBW5.out.size)
  have HR6 : Hid (Blk w6 w.heap.size 67 (zb 32)) := (HR1.out.below HW2.out (by have := HS1.out; omega)).below HW6.out (by have := HW2.out.size; have := HS1.out; omega)
  have HI6 : Hid (In w6 a2 64 c2 B) := HI2.out.below HW6.out
  have HD6 : Hid (In w6 (some ⟨w5.heap.size, 0, none⟩) 32 32 D) := in25 HDL.out H6.out.1
  clear HL HR HRL HN HM HB HBL HUD HX HD HXL HR1 HW1 HW2 HI2 HBW2 HO3 HW3 HBW3 HOW3 HB4 HXM HI4 HBW4 HW5 HBW5 H6 HW6 HS1
  have hs25 : (Tryd.prog.info? 67).map (·.size) = some (U T).length := by rw [HUT.out]; exact size25
  have hone : ∀ v ∈ U T, v.oneCell' = true := U_one T
  go_region_held_law (fun _ => True) (trivial) (first
    | (go_at_call 38; refine (xored_is B 0x5c a2 64 c2 w6.drew (show In w6.drew _ _ _ _ from HI6.out) (by omega)).mono ?_; rintro e w7 ⟨v7, rfl, HO7, HW7⟩; rw [HY.out] at HO7; obtain ⟨a7, c7, hv7, -, -⟩ := own_in HO7.out (by rw [HYL.out]; omega); rw [HYL.out] at hv7; subst hv7; have HOW7 : Hid (w7.ownsRow w6.drew.heap.size 5 1 (.slice a7 64 c7) 64 (U Y)) := own_size HYL.out HO7.out)
    | (refine step_append_in _ (by rfl) (.tmp 15) (.tmp 16) 22 rfl w6.drew.heap.size 5 i0 Tryd.underlying22 hi hz0 hz1 hz2 _ Y 64 HYL.out rfl HOW7.out (some ⟨w5.heap.size, 0, none⟩) 32 32 D rfl ((show In w6.drew _ _ _ _ from HD6.out).below HW7.out) (by omega) HW7.out.size ?_; intro v8 w8 ho8 hg8; have HB8 : Hid (Below w6.drew.heap.size w6.drew w8) := HW7.out.grown hg8 HW7.out.size (by intro b hb; exact (HOW7.out.lt b hb).1); obtain ⟨a8, c8, hv8, hin8, -⟩ := own_in ho8 (by rw [List.length_append, HYL.out, HDL.out]; omega); rw [List.length_append, HYL.out, HDL.out] at hv8 hin8; subst hv8; have HI8 : Hid (In w8 a8 96 c8 (Y ++ D)) := hin8; clear ho8 hg8 hin8)
    | (go_at_call 37; refine (refIs (Y ++ D) T HT.out a8 96 c8 w8 HI8.out (by omega)).mono ?_; rintro e w9 ⟨rfl, HW9⟩; have HB9 : Hid (Below w6.heap.size w6 w9) := (undrew HB8.out).trans (HW9.out.mono HB8.out.size); have HR9 : Hid (Blk w9 w.heap.size 67 (zb 32)) := HR6.out.below HB9.out HR6.out.lt; have hth : w9.there w.heap.size 0 (U T).length := by rw [HUT.out]; exact HR9.out.there 0 32 (by simp [zb])))
  go_wp2
  have hfin := Blk.setCells (U T) 0 w9 (zb 32) HR9.out (by rw [HUT.out, zb_length]; omega)
  have HRR : Hid ((w9.setCells w.heap.size 0 (U T)).heap[w.heap.size]? = some (.cells (U T).toArray 67 (0, 0))) := stored HUT.out hfin.1
  refine bodyPost_ret (v := .agg (U T).toArray) (results_cell_row rfl _ _ w.heap.size 67 _ (0, 0) _ rfl HRR.out Tryd.underlying67 rfl (by rw [size25, List.size_toArray, HUT.out])) rfl ⟨rfl, ?_⟩
  have HF : Below w.heap.size w w9 := HBW6.out.trans (HB9.out.mono HBW6.out.size)
  exact HF.grown hfin.2 HF.size (by intro k hk; have := Option.some.inj hk; omega)
#print axioms refTag_is
end Go.Proofs.YtjeahlfmapacfaaDoor.Oct
