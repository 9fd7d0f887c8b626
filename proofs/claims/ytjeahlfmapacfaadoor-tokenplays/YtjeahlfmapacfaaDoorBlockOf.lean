/-
  Layer 3 (mac): 'blockOf'.
-/
import Derived.Test.YtjeahlfmapacfaaDoorTag
import Derived.Test.YtjeahlfmapacfaaDoorSumIs
import Derived.Test.YtjeahlfmapacfaaDoorSlices
namespace Go.Proofs.YtjeahlfmapacfaaDoor.Oct
open Go.RowKit Sha

theorem size34 : (Tryd.prog.info? 85).map (·.size) = some 64 := by kernel_rfl
theorem slice25 (b : Nat) (W : World) : (Instr.sliceAt 67 (.pointer (some ⟨b, 0, none⟩)) none none none).run Tryd.prog W = .ok (.slice (some ⟨b, 0, none⟩) 32 32) W := by
  obtain ⟨i, hi, -⟩ := Option.map_eq_some_iff.1 size5
  simp [Instr.sliceAt, Instr.sureAddr, run_underlying Tryd.underlying67, Instr.sliceBounds, sizeOf, typeInfo, hi, Addr.add_lit]
theorem slice34 (b : Nat) (W : World) : (Instr.sliceAt 85 (.pointer (some ⟨b, 0, none⟩)) none none none).run Tryd.prog W = .ok (.slice (some ⟨b, 0, none⟩) 64 64) W := by
  obtain ⟨i, hi, -⟩ := Option.map_eq_some_iff.1 size5
  simp [Instr.sliceAt, Instr.sureAddr, run_underlying Tryd.underlying85, Instr.sliceBounds, sizeOf, typeInfo, hi, Addr.add_lit]
theorem splice_zbm (m : Nat) (l : List UInt8) : splice (zb m) 0 (U l) = U (l ++ List.replicate (m - l.length) 0) := by
  simp [splice, zb, U]
theorem splice_zb (l : List UInt8) : splice (zb 64) 0 (U l) = U (l ++ List.replicate (64 - l.length) 0) := splice_zbm 64 l
theorem two_new (w : World) (C : Array Value) (t : TypeId) : Blk ((w.alloc (.cells C t)).alloc (.cells C t)) w.heap.size t C.toList ∧ Blk ((w.alloc (.cells C t)).alloc (.cells C t)) (w.heap.size + 1) t C.toList ∧ Below w.heap.size w ((w.alloc (.cells C t)).alloc (.cells C t)) ∧ ((w.alloc (.cells C t)).alloc (.cells C t)).heap.size = w.heap.size + 2 := by
  refine ⟨(Blk.new w C t).alloc _, ?_, ((Below.refl _ w).alloc (Nat.le_refl _) _).alloc (by simp) _, by simp⟩
  have e := Blk.new (w.alloc (.cells C t)) C t
  simpa using e

set_option maxHeartbeats 1000000 in
set_option maxRecDepth 100000 in
theorem blockOf_short (key B : List UInt8) (hB : key ++ List.replicate (64 - key.length) 0 = B) (a : Option Addr) (n cp : Nat) (w : World) (hl : In w a n cp key) (hn : n ≤ 64) :
    Calls Tryd.prog 44 #[.slice a n cp] w fun e w' => e = .returned (.agg (U B).toArray) ∧ Hid (Below w.heap.size w w') := by
  have HIN : Hid (In w a n cp key) := hl
  have HB : Hid (key ++ List.replicate (64 - key.length) 0 = B) := hB
  have HKL : Hid (key.length = n) := hl.1
  have HBL : Hid ((U B).length = 64) := by show _ = _; rw [U_length, ← hB]; simp; have := hl.1; omega
  have HN : Hid (n ≤ 64) := hn
  have q1 : (n : Int) ≤ 64 := by omega
  have h34 := slice34
  clear hl hB hn
  go_enter Tryd.func44, Tryd.ntmps44
  go_wp2_with (first
    | (with_reducible change wpList _ _ _ ({ dst := some 6, op := _, type := _, pos := _, after := _, guard := _ } :: _) _ (World.alloc _ _)
       generalize hW : World.alloc (World.alloc w _) _ = W2
       have HALL : Hid (Blk W2 w.heap.size 85 (zb 64) ∧ Blk W2 (w.heap.size + 1) 85 (zb 64) ∧ Below w.heap.size w W2 ∧ W2.heap.size = w.heap.size + 2) := by subst hW; exact two_new w (zb 64).toArray 85
       have HI2 : Hid (In W2 a n cp key) := HIN.out.below HALL.out.2.2.1
       clear hW)
    | (with_reducible change wpList _ _ _ ({ dst := some 13, op := _, type := _, pos := _, after := _, guard := _ } :: _) _ _
       refine wpList_copy_splice rfl (.tmp 11) (.tmp 12) 22 22 rfl 5 Tryd.underlying22 size5 (some ⟨w.heap.size + 1, 0, none⟩) a 64 64 n cp rfl rfl (w.heap.size + 1) 0 (zb 64) 85 HALL.out.2.1 (U key) (by rw [U_length, HKL.out]; exact (Nat.min_eq_left HN.out).symm) (fun hp => ⟨rfl, cells_of_in HI2.out hp⟩) (by rw [U_length, zb_length, HKL.out]; have := HN.out; omega) (U_one _) (w.heap.size + 1) W2 (Below.refl _ _) (Nat.le_refl _) ?_
       intro w3 hb3 hw3
       have HR3 : Hid (Blk w3 w.heap.size 85 (zb 64)) := HALL.out.1.below hw3 (by omega)
       have HW3 : Hid (Below (w.heap.size + 1) W2 w3) := hw3
       have HC3 : Hid (w3.heap[w.heap.size + 1]? = some (.cells (U B).toArray 85 (0, 0))) := by
         have e := hb3.out
         rw [splice_zb key, HB.out] at e
         exact e
       clear hb3 hw3)
    | (with_reducible change wpList _ _ _ ({ dst := some 14, op := _, type := _, pos := _, after := _, guard := _ } :: _) _ _
       refine wpList_load_row rfl 85 (.tmp 3) rfl (w.heap.size + 1) rfl 85 (U B).toArray (0, 0) _ HC3.out Tryd.underlying85 rfl (by rw [size34, List.size_toArray, HBL.out]) ?_)
    | (with_reducible change wpList _ _ _ ({ dst := none, op := _, type := _, pos := _, after := _, guard := _ } :: _) _ _
       refine wpList_store_blk rfl 85 (.tmp 2) (.tmp 14) rfl w.heap.size 0 85 (zb 64) (U B) rfl rfl HR3.out (by rw [HBL.out, zb_length]; omega) (by rw [size34, HBL.out]) (U_one _) ?_; intro w6 hB6 hG6))
  have HR : Hid (w6.heap[w.heap.size]? = some (.cells (U B).toArray 85 (0, 0))) := by
    have e := hB6.out
    rw [List.drop_eq_nil_of_le (by rw [zb_length, HBL.out]; omega), List.append_nil] at e
    exact e
  refine bodyPost_ret (v := .agg (U B).toArray) (results_cell_row rfl _ _ w.heap.size 85 _ (0, 0) _ rfl HR.out Tryd.underlying85 rfl (by rw [size34, List.size_toArray, HBL.out])) rfl ⟨rfl, ?_⟩
  have h1 := HALL.out.2.2.2
  have h3 := HW3.out.size
  exact (HALL.out.2.2.1.trans (HW3.out.mono (by omega))).grown hG6.out (by omega) (by intro k hk; have := Option.some.inj hk; omega)

theorem new25 {w w' : World} {D : List UInt8} (hL : (U D).length = 32) (hB : Blk w' w.heap.size 67 ((zb 32).take 0 ++ U D ++ (zb 32).drop (0 + (U D).length))) (hG : (w.alloc (.cells (zb 32).toArray 67)).grownBy w' (some w.heap.size)) :
    Blk w' w.heap.size 67 (U D) ∧ Below w.heap.size w w' :=
  ⟨stored hL hB, ((Below.refl _ w).alloc (Nat.le_refl _) (.cells (zb 32).toArray 67)).grown hG (by simp) (by intro k hk; have := Option.some.inj hk; omega)⟩
theorem in25 {w : World} {b : Nat} {D : List UInt8} (hD : D.length = 32) (h : Blk w b 67 (U D)) : In w (some ⟨b, 0, none⟩) 32 32 D := by
  have e := in_blk h (by rw [hD]; omega)
  rw [hD] at e; exact e

set_option maxHeartbeats 1000000 in
set_option maxRecDepth 100000 in
theorem blockOf_long (key D B : List UInt8) (hD : sum key = D) (hB : D ++ List.replicate (64 - D.length) 0 = B) (a : Option Addr) (n cp : Nat) (w : World) (hk : KT w) (hs : ST w) (hl : In w a n cp key) (hn : 64 < n) (hm : n ≤ 100000) :
    Calls Tryd.prog 44 #[.slice a n cp] w fun e w' => e = .returned (.agg (U B).toArray) ∧ Hid (Below w.heap.size w w') := by
  have HIN : Hid (In w a n cp key) := hl
  have HK : Hid (KT w) := hk
  have HS : Hid (ST w) := hs
  have HD : Hid (sum key = D) := hD
  have HB : Hid (D ++ List.replicate (64 - D.length) 0 = B) := hB
  have HDL : Hid (D.length = 32) := by show _ = _; rw [← hD]; exact sum_length key
  have HUL : Hid ((U D).length = 32) := by show _ = _; rw [U_length]; exact HDL.out
  have HBL : Hid ((U B).length = 64) := by show _ = _; rw [U_length, ← hB]; simp; have := HDL.out; omega
  have HM : Hid (n ≤ 100000) := hm
  have q1 : (64 : Int) < (n : Int) := by omega
  have h34 := slice34
  have h25 := slice25
  clear hl hB hn hk hs hD hm
  go_enter Tryd.func44, Tryd.ntmps44
  go_wp2_with (first
    | (with_reducible change wpList _ _ _ ({ dst := some 6, op := _, type := _, pos := _, after := _, guard := _ } :: _) _ (World.alloc _ _)
       generalize hW : World.alloc (World.alloc w _) _ = W2
       have HALL : Hid (Blk W2 w.heap.size 85 (zb 64) ∧ Blk W2 (w.heap.size + 1) 85 (zb 64) ∧ Below w.heap.size w W2 ∧ W2.heap.size = w.heap.size + 2) := by subst hW; exact two_new w (zb 64).toArray 85
       have HI2 : Hid (In W2 a n cp key) := HIN.out.below HALL.out.2.2.1
       clear hW)
    | (go_at_call 60; refine (sum_is' key D HD.out a n cp W2 (HK.out.below HALL.out.2.2.1) (HS.out.below HALL.out.2.2.1) HI2.out (by have := HM.out; omega)).mono ?_; rintro e w3 ⟨rfl, HW3⟩)
    | (with_reducible change wpList _ _ _ ({ dst := none, op := Op.store 67 _ _, type := _, pos := _, after := _, guard := _ } :: _) _ _
       refine wpList_store_blk rfl 67 (.tmp 4) (.tmp 9) rfl w3.heap.size 0 67 (zb 32) (U D) rfl rfl (Blk.new w3 _ 67) (by rw [HUL.out, zb_length]; omega) (by rw [size25, HUL.out]) (U_one _) ?_
       intro w4 hB4 hG4
       have H4 : Hid (Blk w4 w3.heap.size 67 (U D) ∧ Below w3.heap.size w3 w4) := new25 HUL.out hB4.out hG4.out
       have HW4 : Hid (Below W2.heap.size W2 w4) := HW3.out.trans (H4.out.2.mono HW3.out.size)
       have HC4 : Hid (Blk w4 (w.heap.size + 1) 85 (zb 64)) := HALL.out.2.1.below HW4.out (by have := HALL.out.2.2.2; omega)
       have HR4 : Hid (Blk w4 w.heap.size 85 (zb 64)) := HALL.out.1.below HW4.out (by have := HALL.out.2.2.2; omega)
       have HI4 : Hid (In w4 (some ⟨w3.heap.size, 0, none⟩) 32 32 D) := in25 HDL.out H4.out.1
       clear hB4 hG4)
    | (with_reducible change wpList _ _ _ ({ dst := some 13, op := _, type := _, pos := _, after := _, guard := _ } :: _) _ _
       refine wpList_copy_splice rfl (.tmp 11) (.tmp 12) 22 22 rfl 5 Tryd.underlying22 size5 (some ⟨w.heap.size + 1, 0, none⟩) (some ⟨w3.heap.size, 0, none⟩) 64 64 32 32 rfl rfl (w.heap.size + 1) 0 (zb 64) 85 HC4.out (U D) (by rw [HUL.out]; rfl) (fun hp => ⟨rfl, cells_of_in HI4.out hp⟩) (by rw [HUL.out, zb_length]; omega) (U_one _) (w.heap.size + 1) w4 (Below.refl _ _) (Nat.le_refl _) ?_
       intro w5 hb5 hw5
       have HR5 : Hid (Blk w5 w.heap.size 85 (zb 64)) := HR4.out.below hw5 (by omega)
       have HW5 : Hid (Below (w.heap.size + 1) w4 w5) := hw5
       have HC5 : Hid (w5.heap[w.heap.size + 1]? = some (.cells (U B).toArray 85 (0, 0))) := by
         have e := hb5.out
         rw [splice_zb D, HB.out] at e
         exact e
       clear hb5 hw5)
    | (with_reducible change wpList _ _ _ ({ dst := some 14, op := _, type := _, pos := _, after := _, guard := _ } :: _) _ _
       refine wpList_load_row rfl 85 (.tmp 3) rfl (w.heap.size + 1) rfl 85 (U B).toArray (0, 0) _ HC5.out Tryd.underlying85 rfl (by rw [size34, List.size_toArray, HBL.out]) ?_)
    | (with_reducible change wpList _ _ _ ({ dst := none, op := Op.store 85 _ _, type := _, pos := _, after := _, guard := _ } :: _) _ _
       refine wpList_store_blk rfl 85 (.tmp 2) (.tmp 14) rfl w.heap.size 0 85 (zb 64) (U B) rfl rfl HR5.out (by rw [HBL.out, zb_length]; omega) (by rw [size34, HBL.out]) (U_one _) ?_; intro w6 hB6 hG6))
  have HR : Hid (w6.heap[w.heap.size]? = some (.cells (U B).toArray 85 (0, 0))) := by
    have e := hB6.out
    rw [List.drop_eq_nil_of_le (by rw [zb_length, HBL.out]; omega), List.append_nil] at e
    exact e
  refine bodyPost_ret (v := .agg (U B).toArray) (results_cell_row rfl _ _ w.heap.size 85 _ (0, 0) _ rfl HR.out Tryd.underlying85 rfl (by rw [size34, List.size_toArray, HBL.out])) rfl ⟨rfl, ?_⟩
  have h1 := HALL.out.2.2.2
  have h4 := HW4.out.size
  have h5 := HW5.out.size
  exact ((HALL.out.2.2.1.trans (HW4.out.mono (by omega))).trans (HW5.out.mono (by omega))).grown hG6.out (by omega) (by intro k hk; have := Option.some.inj hk; omega)

/-- 'blockOf' -/
theorem blockOf_is (key B : List UInt8) (hB : blk key = B) (a : Option Addr) (n cp : Nat) (w : World) (hk : KT w) (hs : ST w) (hl : In w a n cp key) (hm : n ≤ 100000) :
    Calls Tryd.prog 44 #[.slice a n cp] w fun e w' => e = .returned (.agg (U B).toArray) ∧ Hid (Below w.heap.size w w') := by
  have h1 := hl.1
  by_cases hn : 64 < n
  · exact blockOf_long key (sum key) B rfl (by rw [← hB, Sha.blk, show Sha.keyOf key = sum key from if_pos (by omega)]) a n cp w hk hs hl hn hm
  · exact blockOf_short key B (by rw [← hB, Sha.blk, show Sha.keyOf key = key from if_neg (by omega)]) a n cp w hl (by omega)
#print axioms blockOf_is
end Go.Proofs.YtjeahlfmapacfaaDoor.Oct
