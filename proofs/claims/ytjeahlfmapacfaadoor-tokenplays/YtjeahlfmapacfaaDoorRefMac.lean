/-
  Layer 3 (mac): the reference's 'xored' and 'Block'.
-/
import Derived.Test.YtjeahlfmapacfaaDoorTagAll
import Derived.Test.YtjeahlfmapacfaaDoorRefIs
namespace Go.Proofs.YtjeahlfmapacfaaDoor.Oct
open Go.RowKit Sha

set_option maxHeartbeats 1000000 in
theorem xored_is (l : List UInt8) (x : UInt8) (a : Option Addr) (n cp : Nat) (w : World) (hl : In w a n cp l) (hn : n ≤ 100000) :
    Calls Tryd.prog 38 #[.slice a n cp, .int .u8 (x.toNat : Int)] w fun e w' => ∃ v, e = .returned v ∧ Hid (Own 5 w.heap.size w' v (xored l x)) ∧ Hid (Below w.heap.size w w') := by
  obtain ⟨i0, hi, hz0, hz1, hz2⟩ := info_parts info5
  have HL : Hid (In w a n cp l) := hl
  have HLL : Hid (l.length = n) := hl.1
  have HN : Hid (n ≤ 100000) := hn
  have b1 : (n : Int) ≤ 100000 := by omega
  clear hl hn
  go_enter Tryd.func38, Tryd.ntmps38
  go_wp2_with fail
  go_loopw [6, 5] (fun i v wr => ∃ (t : Nat) (av : Option Addr) (cv : Nat) (L : List UInt8), i = .int .i64 t ∧ v = .slice av t cv ∧ t ≤ n ∧ Hid (L.length = t) ∧ Hid (L = xored (l.take t) x) ∧ Hid (Own 5 w.heap.size wr (.slice av t cv) L) ∧ Hid (Below w.heap.size w wr)) (fun i _ _ => n - (intOf i).toNat)
  case atStart =>
    refine ⟨0, none, 0, [], rfl, rfl, by omega, rfl, rfl, ?_, Below.refl _ _⟩
    exact World.ownsRow_nil _ _ _ _
  case round =>
    obtain ⟨t, av, cv, L, rfl, rfl, ht, HT, HX, HO, HB⟩ := hrel
    by_cases hlt : t = n
    · have q1 : (n : Int) ≤ (t : Int) := by omega
      subst hlt
      go_wp2
      go_ret
      refine ⟨_, rfl, ?_, HB.out⟩
      have e := HO.out
      rw [HX.out, List.take_of_length_le (by rw [HLL.out]; exact Nat.le_refl _)] at e
      exact e
    · have q1 : (t : Int) < (n : Int) := by omega
      have q2 : t < n := by omega
      have HQ : Hid (t < n) := q2
      obtain ⟨ba, oa, rfl, ha1, ha2⟩ := HL.out.2.2.2.2 (by omega)
      have htl : t < l.length := by rw [HLL.out]; omega
      obtain ⟨c, hc⟩ : ∃ c, c = l[t] := ⟨_, rfl⟩
      have c1 : wr.cell? ⟨ba, oa + t, none⟩ = some (.int .u8 (c.toNat : Int)) := (HB.out.cell (p := ⟨ba, oa + t, none⟩) ha1).trans (ha2 t _ (by rw [hc]; exact List.getElem?_eq_getElem htl))
      have hx := xor8 c x
      have HNX : Hid (xored (l.take (t + 1)) x = L ++ [c ^^^ x]) := by show _ = _; rw [xored_take l x t htl, HX.out, hc]
      have HOJ : Hid ((wr.alloc (.cells (U [c ^^^ x]).toArray 5)).ownsRow w.heap.size 5 1 (.slice av t cv) t (U L)) := World.ownsRow.alloc (own_size HT.out HO.out) _
      have HIJ : Hid (In (wr.alloc (.cells (U [c ^^^ x]).toArray 5)) (some ⟨wr.heap.size, 0, none⟩) 1 1 [c ^^^ x]) := in_new wr 5 [c ^^^ x] (by simp)
      clear ha2 hlt hc htl
      generalize c ^^^ x = z at *
      go_wp2_with (at_builtin; refine wpList_append_in _ rfl (.tmp 13) (.tmp 20) 22 rfl w.heap.size 5 i0 Tryd.underlying22 hi hz0 hz1 hz2 _ L t HT.out rfl HOJ.out (some ⟨wr.heap.size, 0, none⟩) 1 1 [z] rfl HIJ.out (by have := HN.out; have := HQ.out; omega) (by have := HB.out.size; simp; omega) ?_; intro v3 w3 ho3 hg3)
      have hl3 : (L ++ [z]).length = t + 1 := by rw [List.length_append, HT.out]; rfl
      obtain ⟨av3, cv3, hv3, -, -⟩ := own_in ho3 (by rw [hl3]; have := HN.out; have := HQ.out; omega)
      rw [hl3] at hv3
      rw [hv3] at ho3
      have HS := HB.out.size
      have HB3 : Below w.heap.size w w3 := (HB.out.alloc HS _).grown hg3 (by simp; omega) (by intro b hb; exact (HOJ.out.lt b hb).1)
      rw [hv3]
      refine ⟨⟨t + 1, av3, cv3, L ++ [z], by go_num, rfl, HQ.out, hl3, HNX.out.symm, ho3, HB3⟩, ?_⟩
      have := HQ.out
      simp only [intOf]
      omega

set_option maxRecDepth 100000 in
theorem block_short (key B : List UInt8) (hB : key ++ List.replicate (64 - key.length) 0 = B) (a : Option Addr) (n cp : Nat) (w : World) (hl : In w a n cp key) (hn : n ≤ 64) :
    Calls Tryd.prog 36 #[.slice a n cp] w fun e w' => ∃ v, e = .returned v ∧ Hid (Own 5 w.heap.size w' v B) ∧ Hid (Below w.heap.size w w') := by
  obtain ⟨i0, hi, hz0, hz1, hz2⟩ := info_parts info5
  have HL : Hid (In w a n cp key) := hl
  have HKL : Hid (key.length = n) := hl.1
  have HBE : Hid (key ++ List.replicate (64 - key.length) 0 = B) := hB
  have HK64 : Hid (n ≤ 64) := hn
  have b1 : (n : Int) ≤ 64 := by omega
  have H0 : Hid ((w.alloc (.cells #[] 5)).ownsRow w.heap.size 5 1 (.slice (some ⟨w.heap.size, 0, none⟩) 0 0) 0 (U [])) := World.ownsRow_made w #[] 0 (Nat.le_refl _) (by unfold maxLen; omega) rfl
  have HB0 : Hid (Below w.heap.size w (w.alloc (.cells #[] 5))) := (Below.refl _ _).alloc (Nat.le_refl _) _
  clear hl hn hB
  go_enter Tryd.func36, Tryd.ntmps36
  go_wp2_with (at_builtin; refine wpList_append_in _ rfl (.tmp 5) (.tmp 6) 22 rfl w.heap.size 5 i0 Tryd.underlying22 hi hz0 hz1 hz2 _ [] 0 rfl rfl H0.out a n cp key rfl (HL.out.below HB0.out) (by have := HK64.out; omega) HB0.out.size ?_; intro v1 w1 ho1 hg1; obtain ⟨aK, cK, hv1, -, -⟩ := own_in ho1 (by simp only [List.nil_append, HKL.out]; have := HK64.out; omega); simp only [List.nil_append, HKL.out] at hv1; subst hv1; have HOK : Hid (Own 5 w.heap.size w1 (.slice aK n cK) key) := ho1; have HBK : Hid (Below w.heap.size w w1) := HB0.out.grown hg1 HB0.out.size (by intro b hb; exact (H0.out.lt b hb).1); clear ho1 hg1)
  go_loopw [3] (fun v wr => ∃ (m : Nat) (av : Option Addr) (cv : Nat) (L : List UInt8), v = .slice av m cv ∧ m ≤ 64 ∧ Hid (key.length ≤ m) ∧ Hid (L.length = m) ∧ Hid (L = key ++ List.replicate (m - key.length) 0) ∧ Hid (Own 5 w.heap.size wr (.slice av m cv) L) ∧ Hid (Below w.heap.size w wr)) (fun v _ => 64 - slen v)
  case atStart =>
    refine ⟨n, aK, cK, key, rfl, HK64.out, (by show _ ≤ _; rw [HKL.out]; exact Nat.le_refl _), HKL.out, (by show _ = _; rw [HKL.out, Nat.sub_self]; simp), HOK.out, HBK.out⟩
  case round =>
    obtain ⟨m, av, cv, L, rfl, hm, HKm, HLm, HLe, HO, HB⟩ := hrel
    by_cases hlt : m = 64
    · have q1 : (64 : Int) ≤ (m : Int) := by omega
      subst hlt
      go_wp2
      go_ret
      refine ⟨_, rfl, ?_, HB.out⟩
      have e := HO.out
      rw [HLe.out, HBE.out] at e
      exact e
    · have q1 : (m : Int) < 64 := by omega
      have HQ : Hid (m < 64) := by show m < 64; omega
      have HOJ : Hid ((wr.alloc (.cells (U [0]).toArray 5)).ownsRow w.heap.size 5 1 (.slice av m cv) m (U L)) := World.ownsRow.alloc (own_size HLm.out HO.out) _
      have HIJ : Hid (In (wr.alloc (.cells (U [0]).toArray 5)) (some ⟨wr.heap.size, 0, none⟩) 1 1 [0]) := in_new wr 5 [0] (by simp)
      clear hlt
      go_wp2_with (at_builtin; refine wpList_append_in _ rfl (.tmp 19) (.tmp 20) 22 rfl w.heap.size 5 i0 Tryd.underlying22 hi hz0 hz1 hz2 _ L m HLm.out rfl HOJ.out (some ⟨wr.heap.size, 0, none⟩) 1 1 [0] rfl HIJ.out (by omega) (by have := HB.out.size; simp; omega) ?_; intro v3 w3 ho3 hg3)
      have hl3 : (L ++ [0]).length = m + 1 := by rw [List.length_append, HLm.out]; rfl
      obtain ⟨av3, cv3, hv3, -, -⟩ := own_in ho3 (by rw [hl3]; omega)
      rw [hl3] at hv3
      rw [hv3] at ho3
      have HS := HB.out.size
      have HB3 : Below w.heap.size w w3 := (HB.out.alloc HS _).grown hg3 (by simp; omega) (by intro b hb; exact (HOJ.out.lt b hb).1)
      rw [hv3]
      refine ⟨⟨m + 1, av3, cv3, L ++ [0], rfl, HQ.out, (by have := HKm.out; show _ ≤ _; omega), hl3, ?_, ho3, HB3⟩, ?_⟩
      · show _ = _
        rw [HLe.out, List.append_assoc, ← List.replicate_succ', show m + 1 - key.length = m - key.length + 1 by have := HKm.out; omega]
      · have := HQ.out
        show 64 - (m + 1) < 64 - m
        omega

set_option maxHeartbeats 1000000 in
set_option maxRecDepth 100000 in
set_option maxRecDepth 100000 in
theorem block_long (key D B : List UInt8) (hD : sum key = D) (hB : D ++ List.replicate (64 - D.length) 0 = B) (a : Option Addr) (n cp : Nat) (w : World) (hl : In w a n cp key) (hn : 64 < n) (hm : n ≤ 100000) :
    Calls Tryd.prog 36 #[.slice a n cp] w fun e w' => ∃ v, e = .returned v ∧ Hid (Own 5 w.heap.size w' v B) ∧ Hid (Below w.heap.size w w') := by
  obtain ⟨i0, hi, hz0, hz1, hz2⟩ := info_parts info5
  have HL : Hid (In w a n cp key) := hl
  have HLL : Hid (key.length = n) := hl.1
  have HD : Hid (sum key = D) := hD
  have HBE : Hid (D ++ List.replicate (64 - D.length) 0 = B) := hB
  have HM : Hid (n ≤ 100000) := hm
  have HKL : Hid (D.length = 32) := by show _ = _; rw [← hD]; exact sum_length key
  have HUL : Hid ((U D).length = 32) := by show _ = _; rw [U_length]; exact HKL.out
  have HK64 : Hid (32 ≤ 64) := by show _ ≤ _; omega
  have b1 : (64 : Int) < (n : Int) := by omega
  have h25 := slice25
  have H0 : Hid ((w.alloc (.cells #[] 5)).ownsRow w.heap.size 5 1 (.slice (some ⟨w.heap.size, 0, none⟩) 0 0) 0 (U [])) := World.ownsRow_made w #[] 0 (Nat.le_refl _) (by unfold maxLen; omega) rfl
  have HB0 : Hid (Below w.heap.size w (w.alloc (.cells #[] 5))) := (Below.refl _ _).alloc (Nat.le_refl _) _
  clear hl hn hB hD hm
  go_enter Tryd.func36, Tryd.ntmps36
  go_wp2_with (at_builtin; refine wpList_append_in _ rfl (.tmp 5) (.tmp 6) 22 rfl w.heap.size 5 i0 Tryd.underlying22 hi hz0 hz1 hz2 _ [] 0 rfl rfl H0.out a n cp key rfl (HL.out.below HB0.out) (by have := HM.out; omega) HB0.out.size ?_; intro v1 w1 ho1 hg1; obtain ⟨a1, c1, hv1, -, -⟩ := own_in ho1 (by simp only [List.nil_append, HLL.out]; have := HM.out; omega); simp only [List.nil_append, HLL.out] at hv1; subst hv1; have HB1 : Hid (Below w.heap.size w w1) := HB0.out.grown hg1 HB0.out.size (by intro b hb; exact (H0.out.lt b hb).1); clear ho1 hg1)
  refine (refIs key D HD.out a n cp w1 (HL.out.below HB1.out) HM.out).mono ?_
  rintro e w2 ⟨rfl, HW2⟩
  have HB2 : Hid (Below w.heap.size w w2) := HB1.out.trans (HW2.out.mono HB1.out.size)
  go_wp2_with (first
    | (with_reducible change wpList _ _ _ ({ dst := none, op := Op.store 67 _ _, type := _, pos := _, after := _, guard := _ } :: _) _ _
       refine wpList_store_blk rfl 67 (.tmp 4) (.tmp 12) rfl w2.heap.size 0 67 (zb 32) (U D) rfl rfl (Blk.new w2 _ 67) (by rw [HUL.out, zb_length]; omega) (by rw [size25, HUL.out]) (U_one _) ?_
       intro w3 hB3 hG3
       have H3 : Hid (Blk w3 w2.heap.size 67 (U D) ∧ Below w2.heap.size w2 w3) := new25 HUL.out hB3.out hG3.out
       have HB3 : Hid (Below w.heap.size w w3) := HB2.out.trans (H3.out.2.mono HB2.out.size)
       have H30 : Hid ((w3.alloc (.cells #[] 5)).ownsRow w.heap.size 5 1 (.slice (some ⟨w3.heap.size, 0, none⟩) 0 0) 0 (U [])) := World.ownsRow_made w3 #[] 0 HB3.out.size (by unfold maxLen; omega) rfl
       have HB30 : Hid (Below w3.heap.size w3 (w3.alloc (.cells #[] 5))) := (Below.refl _ _).alloc (Nat.le_refl _) _
       clear hB3 hG3)
    | (at_builtin
       refine wpList_append_in _ rfl (.tmp 13) (.tmp 14) 22 rfl w.heap.size 5 i0 Tryd.underlying22 hi hz0 hz1 hz2 _ [] 0 rfl rfl H30.out (some ⟨w2.heap.size, 0, none⟩) 32 32 D rfl ((in25 HKL.out H3.out.1).below HB30.out) (by omega) (by have := HB3.out.size; simp; omega) ?_
       intro v4 w4 ho4 hg4
       obtain ⟨aK, cK, hv4, -, -⟩ := own_in ho4 (by simp only [List.nil_append, HKL.out]; omega)
       simp only [List.nil_append, HKL.out] at hv4
       subst hv4
       have HOK : Hid (Own 5 w.heap.size w4 (.slice aK 32 cK) D) := ho4
       have HBK : Hid (Below w.heap.size w w4) := (HB3.out.trans (HB30.out.mono HB3.out.size)).grown hg4 (by have := HB3.out.size; simp; omega) (by intro b hb; exact (H30.out.lt b hb).1)
       clear ho4 hg4))
  go_loopw [3] (fun v wr => ∃ (m : Nat) (av : Option Addr) (cv : Nat) (L : List UInt8), v = .slice av m cv ∧ m ≤ 64 ∧ Hid (D.length ≤ m) ∧ Hid (L.length = m) ∧ Hid (L = D ++ List.replicate (m - D.length) 0) ∧ Hid (Own 5 w.heap.size wr (.slice av m cv) L) ∧ Hid (Below w.heap.size w wr)) (fun v _ => 64 - slen v)
  case atStart =>
    refine ⟨32, aK, cK, D, rfl, HK64.out, (by show _ ≤ _; rw [HKL.out]; exact Nat.le_refl _), HKL.out, (by show _ = _; rw [HKL.out, Nat.sub_self]; simp), HOK.out, HBK.out⟩
  case round =>
    obtain ⟨m, av, cv, L, rfl, hm, HKm, HLm, HLe, HO, HB⟩ := hrel
    by_cases hlt : m = 64
    · have q1 : (64 : Int) ≤ (m : Int) := by omega
      subst hlt
      go_wp2
      go_ret
      refine ⟨_, rfl, ?_, HB.out⟩
      have e := HO.out
      rw [HLe.out, HBE.out] at e
      exact e
    · have q1 : (m : Int) < 64 := by omega
      have HQ : Hid (m < 64) := by show m < 64; omega
      have HOJ : Hid ((wr.alloc (.cells (U [0]).toArray 5)).ownsRow w.heap.size 5 1 (.slice av m cv) m (U L)) := World.ownsRow.alloc (own_size HLm.out HO.out) _
      have HIJ : Hid (In (wr.alloc (.cells (U [0]).toArray 5)) (some ⟨wr.heap.size, 0, none⟩) 1 1 [0]) := in_new wr 5 [0] (by simp)
      clear hlt
      go_wp2_with (at_builtin; refine wpList_append_in _ rfl (.tmp 19) (.tmp 20) 22 rfl w.heap.size 5 i0 Tryd.underlying22 hi hz0 hz1 hz2 _ L m HLm.out rfl HOJ.out (some ⟨wr.heap.size, 0, none⟩) 1 1 [0] rfl HIJ.out (by omega) (by have := HB.out.size; simp; omega) ?_; intro v3 w3 ho3 hg3)
      have hl3 : (L ++ [0]).length = m + 1 := by rw [List.length_append, HLm.out]; rfl
      obtain ⟨av3, cv3, hv3, -, -⟩ := own_in ho3 (by rw [hl3]; omega)
      rw [hl3] at hv3
      rw [hv3] at ho3
      have HS := HB.out.size
      have HB3 : Below w.heap.size w w3 := (HB.out.alloc HS _).grown hg3 (by simp; omega) (by intro b hb; exact (HOJ.out.lt b hb).1)
      rw [hv3]
      refine ⟨⟨m + 1, av3, cv3, L ++ [0], rfl, HQ.out, (by have := HKm.out; show _ ≤ _; omega), hl3, ?_, ho3, HB3⟩, ?_⟩
      · show _ = _
        rw [HLe.out, List.append_assoc, ← List.replicate_succ', show m + 1 - D.length = m - D.length + 1 by have := HKm.out; omega]
      · have := HQ.out
        show 64 - (m + 1) < 64 - m
        omega

/-- 'Block' -/
theorem block_is' (key B : List UInt8) (hB : Sha.blk key = B) (a : Option Addr) (n cp : Nat) (w : World) (hl : In w a n cp key) (hm : n ≤ 100000) :
    Calls Tryd.prog 36 #[.slice a n cp] w fun e w' => ∃ v, e = .returned v ∧ Hid (Own 5 w.heap.size w' v B) ∧ Hid (Below w.heap.size w w') := by
  have h1 := hl.1
  by_cases hn : 64 < n
  · exact block_long key (sum key) B rfl (by rw [← hB, Sha.blk, show Sha.keyOf key = sum key from if_pos (by omega)]) a n cp w hl hn hm
  · exact block_short key B (by rw [← hB, Sha.blk, show Sha.keyOf key = key from if_neg (by omega)]) a n cp w hl (by omega)
#print axioms block_is'
end Go.Proofs.YtjeahlfmapacfaaDoor.Oct
