/-
  Layer 3 (mac): 'Tag'.
-/
import Derived.Test.YtjeahlfmapacfaaDoorTagIs
namespace Go.Proofs.YtjeahlfmapacfaaDoor.Oct
open Go.RowKit Sha

theorem new34 {w w' : World} {D : List UInt8} (hL : (U D).length = 64) (hB : Blk w' w.heap.size 85 ((zb 64).take 0 ++ U D ++ (zb 64).drop (0 + (U D).length))) (hG : (w.alloc (.cells (zb 64).toArray 85)).grownBy w' (some w.heap.size)) :
    Blk w' w.heap.size 85 (U D) ∧ Below w.heap.size w w' := by
  refine ⟨?_, ((Below.refl _ w).alloc (Nat.le_refl _) (.cells (zb 64).toArray 85)).grown hG (by simp) (by intro k hk; have := Option.some.inj hk; omega)⟩
  rw [List.drop_eq_nil_of_le (by rw [zb_length]; omega)] at hB
  simpa using hB

set_option maxHeartbeats 1000000 in
set_option maxRecDepth 100000 in
theorem tag_is (key msg T : List UInt8) (hT : tagOf key msg = T) (a b : Option Addr) (n m cp cq : Nat) (w : World) (hk : KT w) (hs : ST w) (hl : In w a n cp key) (hr : In w b m cq msg) (hn : n ≤ 100000) (hm : m ≤ 100000) :
    Calls Tryd.prog 34 #[.slice a n cp, .slice b m cq] w fun e w' => e = .returned (.agg (U T).toArray) ∧ Hid (Below w.heap.size w w') := by
  have HL : Hid (In w a n cp key) := hl
  have HR : Hid (In w b m cq msg) := hr
  have HK : Hid (KT w) := hk
  have HS : Hid (ST w) := hs
  have HN : Hid (n ≤ 100000) := hn
  have HM : Hid (m ≤ 100000) := hm
  obtain ⟨B, hB⟩ : ∃ B, Sha.blk key = B := ⟨_, rfl⟩
  obtain ⟨D, hD⟩ : ∃ D, sum (xored B 0x36 ++ msg) = D := ⟨_, rfl⟩
  have hT2 : sum (xored B 0x5c ++ D) = T := by rw [← hT, ← hD, ← hB]; rfl
  have HB : Hid (Sha.blk key = B) := hB
  have HD : Hid (sum (xored B 0x36 ++ msg) = D) := hD
  have HT : Hid (sum (xored B 0x5c ++ D) = T) := hT2
  have HBL : Hid (B.length = 64) := by show _ = _; rw [← hB]; exact blk_len key
  have HUB : Hid ((U B).length = 64) := by show _ = _; rw [U_length]; exact HBL.out
  have HDL : Hid (D.length = 32) := by show _ = _; rw [← hD]; exact sum_length _
  have HUD : Hid ((U D).length = 32) := by show _ = _; rw [U_length]; exact HDL.out
  have HUT : Hid ((U T).length = 32) := by show _ = _; rw [U_length, ← hT2]; exact sum_length _
  have h25 := slice25
  clear hl hr hk hs hn hm hB hD hT hT2
  go_enter Tryd.func34, Tryd.ntmps34
  go_wp2_with fail
  generalize hW1 : w.alloc _ = W1
  obtain ⟨HR1, HS1, HW1⟩ : Hid (Blk W1 w.heap.size 67 (zb 32)) ∧ Hid (W1.heap.size = w.heap.size + 1) ∧ Hid (Below w.heap.size w W1) := by
    subst hW1
    exact ⟨Blk.new w _ 67, show _ = _ by simp, (Below.refl _ w).alloc (Nat.le_refl _) _⟩
  clear hW1
  refine (blockOf_is key B HB.out a n cp W1 (HK.out.below HW1.out) (HS.out.below HW1.out) (HL.out.below HW1.out) HN.out).mono ?_
  rintro e w2 ⟨rfl, HW2⟩
  go_wp2_with (first
    | (with_reducible change wpList _ _ _ ({ dst := none, op := Op.store 85 _ _, type := _, pos := _, after := _, guard := _ } :: _) _ _
       refine wpList_store_blk rfl 85 (.tmp 5) (.tmp 9) rfl w2.heap.size 0 85 (zb 64) (U B) rfl rfl (Blk.new w2 _ 85) (by rw [HUB.out, zb_length]; omega) (by rw [size34, HUB.out]) (U_one _) ?_
       intro w3 hB3 hG3
       have H3 : Hid (Blk w3 w2.heap.size 85 (U B) ∧ Below w2.heap.size w2 w3) := new34 HUB.out hB3.out hG3.out
       clear hB3 hG3)
    | fail)
  have HBW2 : Hid (Below w.heap.size w w2) := HW1.out.trans (HW2.out.mono (by have := HS1.out; omega))
  have HBW3 : Hid (Below w.heap.size w w3) := HBW2.out.trans (H3.out.2.mono HBW2.out.size)
  have HR3 : Hid (Blk w3 w.heap.size 67 (zb 32)) := (HR1.out.below HW2.out (by have := HS1.out; omega)).below H3.out.2 (by have := HW2.out.size; have := HS1.out; omega)
  have HLT2 : Hid (w2.heap.size < w3.heap.size) := H3.out.1.lt
  have HSZ2 : Hid (w.heap.size < w2.heap.size) := by have := HW2.out.size; have := HS1.out; show _ < _; omega
  refine (digest_is B msg D 0x36 HD.out w2.heap.size b m cq w3 (HK.out.below HBW3.out) (HS.out.below HBW3.out) H3.out.1 HBL.out (HR.out.below HBW3.out) HM.out).mono ?_
  rintro e w4 ⟨rfl, HW4⟩
  have HBW4 : Hid (Below w.heap.size w w4) := HBW3.out.trans (HW4.out.mono HBW3.out.size)
  have HC4 : Hid (Blk w4 w2.heap.size 85 (U B)) := H3.out.1.below HW4.out HLT2.out
  have HR4 : Hid (Blk w4 w.heap.size 67 (zb 32)) := HR3.out.below HW4.out (by have := HLT2.out; have := HSZ2.out; omega)
  go_wp2_with (first
    | (with_reducible change wpList _ _ _ ({ dst := none, op := Op.store 67 (.tmp 7) _, type := _, pos := _, after := _, guard := _ } :: _) _ _
       refine wpList_store_blk rfl 67 (.tmp 7) (.tmp 13) rfl w4.heap.size 0 67 (zb 32) (U D) rfl rfl (Blk.new w4 _ 67) (by rw [HUD.out, zb_length]; omega) (by rw [size25, HUD.out]) (U_one _) ?_
       intro w5 hB5 hG5
       have H5 : Hid (Blk w5 w4.heap.size 67 (U D) ∧ Below w4.heap.size w4 w5) := new25 HUD.out hB5.out hG5.out
       clear hB5 hG5)
    | fail)
  have HBW5 : Hid (Below w.heap.size w w5) := HBW4.out.trans (H5.out.2.mono HBW4.out.size)
  have HC5 : Hid (Blk w5 w2.heap.size 85 (U B)) := HC4.out.below H5.out.2 HC4.out.lt
  have HR5 : Hid (Blk w5 w.heap.size 67 (zb 32)) := HR4.out.below H5.out.2 HR4.out.lt
  refine (digest_is B D T 0x5c HT.out w2.heap.size (some ⟨w4.heap.size, 0, none⟩) 32 32 w5 (HK.out.below HBW5.out) (HS.out.below HBW5.out) HC5.out HBL.out (in25 HDL.out H5.out.1) (by omega)).mono ?_
  rintro e w6 ⟨rfl, HW6⟩
  have HBW6 : Hid (Below w.heap.size w w6) := HBW5.out.trans (HW6.out.mono HBW5.out.size)
  have HR6 : Hid (Blk w6 w.heap.size 67 (zb 32)) := HR5.out.below HW6.out HR5.out.lt
  go_wp2_with (first
    | (with_reducible change wpList _ _ _ ({ dst := none, op := Op.store 67 (.tmp 4) _, type := _, pos := _, after := _, guard := _ } :: _) _ _
       refine wpList_store_blk rfl 67 (.tmp 4) (.tmp 16) rfl w.heap.size 0 67 (zb 32) (U T) rfl rfl HR6.out (by rw [HUT.out, zb_length]; omega) (by rw [size25, HUT.out]) (U_one _) ?_
       intro w7 hB7 hG7)
    | fail)
  have HRR : Hid (w7.heap[w.heap.size]? = some (.cells (U T).toArray 67 (0, 0))) := stored HUT.out hB7.out
  refine bodyPost_ret (v := .agg (U T).toArray) (results_cell_row rfl _ _ w.heap.size 67 _ (0, 0) _ rfl HRR.out Tryd.underlying67 rfl (by rw [size25, List.size_toArray, HUT.out])) rfl ⟨rfl, ?_⟩
  exact HBW6.out.grown hG7.out HBW6.out.size (by intro k hk; have := Option.some.inj hk; omega)
#print axioms tag_is
end Go.Proofs.YtjeahlfmapacfaaDoor.Oct
