/-
  Layer 3 (mac): 'Derive' and the reference's 'Derive'.
-/
import Derived.Test.YtchblcfbllcbmaaDoorTagsLaw
import Derived.Test.YtchblcfbllcbmaaDoorLabel
namespace Go.Proofs.YtchblcfbllcbmaaDoor.Oct
open Go.RowKit Sha

set_option maxHeartbeats 1000000 in
set_option maxRecDepth 100000 in
theorem derive_is (key T : List UInt8) (s : ByteArray) (hT : tagOf key (s.data.toList ++ [1]) = T) (a : Option Addr) (n cp : Nat) (w : World) (hk : KT w) (hs : ST w) (hl : In w a n cp key) (hn : n ≤ 20000) (hsz : s.size ≤ 20000) :
    Calls Tryd.prog 12 #[.slice a n cp, .string s] w fun e w' => e = .returned (.agg (U T).toArray) ∧ Hid (Below w.heap.size w w') := by
  obtain ⟨i0, hi, hz0, hz1, hz2⟩ := info_parts info5
  have HK : Hid (KT w) := hk
  have HS : Hid (ST w) := hs
  have HL : Hid (In w a n cp key) := hl
  have HN : Hid (n ≤ 20000) := hn
  have HZ : Hid (s.size ≤ 20000) := hsz
  have HT : Hid (tagOf key (s.data.toList ++ [1]) = T) := hT
  have HUT : Hid ((U T).length = 32) := by show _ = _; rw [U_length, ← hT]; exact tagOf_len _ _
  clear hk hs hl hn hsz hT
  go_enter Tryd.func12, Tryd.ntmps12
  go_wp2_with (first
    | (with_reducible change wpList _ _ _ ({ dst := some 7, op := _, type := _, pos := _, after := _, guard := _ } :: _) _ _
       generalize hW1 : w.alloc _ = W1
       obtain ⟨HR1, HS1, HW1⟩ : Hid (Blk W1 w.heap.size 25 (zb 32)) ∧ Hid (W1.heap.size = w.heap.size + 1) ∧ Hid (Below w.heap.size w W1) := by
         subst hW1
         exact ⟨Blk.new w _ 25, show _ = _ by simp, (Below.refl _ w).alloc (Nat.le_refl _) _⟩
       obtain ⟨cap, W2, hcv, HIN2, HSP2, HB2, HS2⟩ := label_made (P := Tryd.prog) W1 9 22 5 s Tryd.underlying9 Tryd.underlying22 Tryd.underlying5 (by have := HZ.out; omega)
       refine wpList_conv rfl (.tmp 6) 9 22 rfl (.string s) _ rfl hcv ?_
       have HI3 : Hid (In (W2.alloc (.cells (U [1]).toArray 5)) (some ⟨W1.heap.size, 0, none⟩) s.size cap s.data.toList) := HIN2.out.below ((Below.refl _ W2).alloc (Nat.le_refl _) _)
       have HSP3 : Hid (Spare (W2.alloc (.cells (U [1]).toArray 5)) W1.heap.size s.size cap) := HSP2.out.alloc (by rw [HS2.out]; omega) _
       have HJ3 : Hid (In (W2.alloc (.cells (U [1]).toArray 5)) (some ⟨W2.heap.size, 0, none⟩) 1 1 [1]) := in_new W2 5 [1] (by simp)
       have HB3 : Hid (Below W1.heap.size W1 (W2.alloc (.cells (U [1]).toArray 5))) := HB2.out.alloc HB2.out.size _
       clear hcv hW1)
    | (with_reducible change wpList _ _ _ ({ dst := some 9, op := _, type := _, pos := _, after := _, guard := _ } :: _) _ _
       refine wpList_append_spare _ rfl (.tmp 7) (.tmp 8) 22 rfl 5 i0 Tryd.underlying22 hi hz0 hz1 hz2 W1.heap.size W1.heap.size s.size cap s.data.toList [1] (Nat.le_refl _) (by have := HS2.out; simp; omega) rfl HI3.out HSP3.out ⟨W2.heap.size, 0, none⟩ 1 1 rfl HJ3.out (by have := HZ.out; omega) ?_
       intro a4 c4 W4 HI4 HB4)
    | fail)
  have HBW4 : Hid (Below W1.heap.size W1 W4) := HB3.out.trans HB4.out
  have HBW : Hid (Below w.heap.size w W4) := HW1.out.trans (HBW4.out.mono (by have := HS1.out; omega))
  have HR4 : Hid (Blk W4 w.heap.size 25 (zb 32)) := HR1.out.below HBW4.out (by have := HS1.out; omega)
  refine (tag_is key (s.data.toList ++ [1]) T HT.out a a4 n (s.size + 1) cp c4 W4 (HK.out.below HBW.out) (HS.out.below HBW.out) (HL.out.below HBW.out) HI4.out (by have := HN.out; omega) (by have := HZ.out; omega)).mono ?_
  rintro e w5 ⟨rfl, HW5⟩
  have HBW5 : Hid (Below w.heap.size w w5) := HBW.out.trans (HW5.out.mono HBW.out.size)
  have HR5 : Hid (Blk w5 w.heap.size 25 (zb 32)) := HR4.out.below HW5.out HR4.out.lt
  go_wp2_with (first
    | (with_reducible change wpList _ _ _ ({ dst := none, op := Op.store 25 _ _, type := _, pos := _, after := _, guard := _ } :: _) _ _
       refine wpList_store_blk rfl 25 (.tmp 4) (.tmp 10) rfl w.heap.size 0 25 (zb 32) (U T) rfl rfl HR5.out (by rw [HUT.out, zb_length]; omega) (by rw [size25, HUT.out]) (U_one _) ?_
       intro w6 hB6 hG6)
    | fail)
  have HRR : Hid (w6.heap[w.heap.size]? = some (.cells (U T).toArray 25 (0, 0))) := stored HUT.out hB6.out
  refine bodyPost_ret (v := .agg (U T).toArray) (results_cell_row rfl _ _ w.heap.size 25 _ (0, 0) _ rfl HRR.out Tryd.underlying25 rfl (by rw [size25, List.size_toArray, HUT.out])) rfl ⟨rfl, ?_⟩
  exact HBW5.out.grown hG6.out HBW5.out.size (by intro k hk; have := Option.some.inj hk; omega)
#print axioms derive_is

set_option maxHeartbeats 1000000 in
set_option maxRecDepth 100000 in
theorem refDerive_is (key T : List UInt8) (s : ByteArray) (hT : tagOf key (s.data.toList ++ [1]) = T) (a : Option Addr) (n cp : Nat) (w : World) (hl : In w a n cp key) (hn : n ≤ 20000) (hsz : s.size ≤ 20000) :
    Calls Tryd.prog 13 #[.slice a n cp, .string s] w fun e w' => e = .returned (.agg (U T).toArray) ∧ Hid (Below w.heap.size w w') := by
  obtain ⟨i0, hi, hz0, hz1, hz2⟩ := info_parts info5
  have HL : Hid (In w a n cp key) := hl
  have HN : Hid (n ≤ 20000) := hn
  have HZ : Hid (s.size ≤ 20000) := hsz
  have HT : Hid (tagOf key (s.data.toList ++ [1]) = T) := hT
  have HUT : Hid ((U T).length = 32) := by show _ = _; rw [U_length, ← hT]; exact tagOf_len _ _
  clear hl hn hsz hT
  go_enter Tryd.func13, Tryd.ntmps13
  go_wp2_with (first
    | (with_reducible change wpList _ _ _ ({ dst := some 7, op := _, type := _, pos := _, after := _, guard := _ } :: _) _ _
       generalize hW1 : w.alloc _ = W1
       obtain ⟨HR1, HS1, HW1⟩ : Hid (Blk W1 w.heap.size 25 (zb 32)) ∧ Hid (W1.heap.size = w.heap.size + 1) ∧ Hid (Below w.heap.size w W1) := by
         subst hW1
         exact ⟨Blk.new w _ 25, show _ = _ by simp, (Below.refl _ w).alloc (Nat.le_refl _) _⟩
       obtain ⟨cap, W2, hcv, HIN2, HSP2, HB2, HS2⟩ := label_made (P := Tryd.prog) W1 9 22 5 s Tryd.underlying9 Tryd.underlying22 Tryd.underlying5 (by have := HZ.out; omega)
       refine wpList_conv rfl (.tmp 6) 9 22 rfl (.string s) _ rfl hcv ?_
       have HI3 : Hid (In (W2.alloc (.cells (U [1]).toArray 5)) (some ⟨W1.heap.size, 0, none⟩) s.size cap s.data.toList) := HIN2.out.below ((Below.refl _ W2).alloc (Nat.le_refl _) _)
       have HSP3 : Hid (Spare (W2.alloc (.cells (U [1]).toArray 5)) W1.heap.size s.size cap) := HSP2.out.alloc (by rw [HS2.out]; omega) _
       have HJ3 : Hid (In (W2.alloc (.cells (U [1]).toArray 5)) (some ⟨W2.heap.size, 0, none⟩) 1 1 [1]) := in_new W2 5 [1] (by simp)
       have HB3 : Hid (Below W1.heap.size W1 (W2.alloc (.cells (U [1]).toArray 5))) := HB2.out.alloc HB2.out.size _
       clear hcv hW1)
    | (with_reducible change wpList _ _ _ ({ dst := some 9, op := _, type := _, pos := _, after := _, guard := _ } :: _) _ _
       refine wpList_append_spare _ rfl (.tmp 7) (.tmp 8) 22 rfl 5 i0 Tryd.underlying22 hi hz0 hz1 hz2 W1.heap.size W1.heap.size s.size cap s.data.toList [1] (Nat.le_refl _) (by have := HS2.out; simp; omega) rfl HI3.out HSP3.out ⟨W2.heap.size, 0, none⟩ 1 1 rfl HJ3.out (by have := HZ.out; omega) ?_
       intro a4 c4 W4 HI4 HB4)
    | fail)
  have HBW4 : Hid (Below W1.heap.size W1 W4) := HB3.out.trans HB4.out
  have HBW : Hid (Below w.heap.size w W4) := HW1.out.trans (HBW4.out.mono (by have := HS1.out; omega))
  have HR4 : Hid (Blk W4 w.heap.size 25 (zb 32)) := HR1.out.below HBW4.out (by have := HS1.out; omega)
  refine (refTag_is key (s.data.toList ++ [1]) T HT.out a a4 n (s.size + 1) cp c4 W4 (HL.out.below HBW.out) HI4.out (by have := HN.out; omega) (by have := HZ.out; omega)).mono ?_
  rintro e w5 ⟨rfl, HW5⟩
  have HBW5 : Hid (Below w.heap.size w w5) := HBW.out.trans (HW5.out.mono HBW.out.size)
  have HR5 : Hid (Blk w5 w.heap.size 25 (zb 32)) := HR4.out.below HW5.out HR4.out.lt
  go_wp2_with (first
    | (with_reducible change wpList _ _ _ ({ dst := none, op := Op.store 25 _ _, type := _, pos := _, after := _, guard := _ } :: _) _ _
       refine wpList_store_blk rfl 25 (.tmp 4) (.tmp 10) rfl w.heap.size 0 25 (zb 32) (U T) rfl rfl HR5.out (by rw [HUT.out, zb_length]; omega) (by rw [size25, HUT.out]) (U_one _) ?_
       intro w6 hB6 hG6)
    | fail)
  have HRR : Hid (w6.heap[w.heap.size]? = some (.cells (U T).toArray 25 (0, 0))) := stored HUT.out hB6.out
  refine bodyPost_ret (v := .agg (U T).toArray) (results_cell_row rfl _ _ w.heap.size 25 _ (0, 0) _ rfl HRR.out Tryd.underlying25 rfl (by rw [size25, List.size_toArray, HUT.out])) rfl ⟨rfl, ?_⟩
  exact HBW5.out.grown hG6.out HBW5.out.size (by intro k hk; have := Option.some.inj hk; omega)
#print axioms refDerive_is
end Go.Proofs.YtchblcfbllcbmaaDoor.Oct
