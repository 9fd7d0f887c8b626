/-
  Layer 4 (frame): the law on 'Frame'.
-/
import Derived.Test.YtokmdnmnhkdadaaRefFrame
import Derived.Test.YtokmdnmnhkdadaaZeros
namespace Go.Proofs.Ytokmdnmnhkdadaa.Oct
open Go.RowKit

/-- one byte of an own slice is another one -/
theorem own_set {B : Nat} {w : World} {g n cc : Nat} {l : List UInt8} (h : Own 5 B w (.slice (some ⟨g, 0, none⟩) n cc) l) (hn : l.length = n) (t : Nat) (ht : t < l.length) :
    w.cell? ⟨g, t, none⟩ = some (.int .u8 (l[t].toNat : Int)) ∧ w.frozen? ⟨g, t, none⟩ = false ∧ B ≤ g ∧ ∀ x : UInt8, Own 5 B (w.setCell ⟨g, t, none⟩ (.int .u8 (x.toNat : Int))) (.slice (some ⟨g, 0, none⟩) n cc) (l.set t x) := by
  rcases h.2 with ⟨h1, h2⟩ | ⟨g', cap, cur, e1, e2, hg, e3, e4, e5, e6⟩
  · omega
  · simp only [Value.slice.injEq, Option.some.injEq, Addr.mk.injEq] at e1
    obtain ⟨⟨rfl, _⟩, _, rfl⟩ := e1
    have hc : ∀ i (hi : i < l.length), cur.toList[i]? = some (.int .u8 (l[i].toNat : Int)) := by
      intro i hi
      have e7 : (cur.toList.take (l.length * 1))[i]? = (U l)[i]? := by rw [e6]
      rw [U_get l i hi, List.getElem?_take, if_pos (by omega)] at e7
      exact e7
    have hcell : w.cell? ⟨g, t, none⟩ = some (.int .u8 (l[t].toNat : Int)) := by
      rw [cell_of_row w g t _ 5 (0, 0) hg, ← Array.getElem?_toList]; exact hc t ht
    refine ⟨hcell, frozen_of_row w g t _ 5 hg, e2, fun x => ?_⟩
    refine ⟨by simp [U], .inr ⟨g, cc, cur.setIfInBounds t (.int .u8 (x.toNat : Int)), by rw [List.length_set, hn], e2, heap_setCell_same w g t _ 5 _ hg, by rw [List.length_set]; exact e3, e4, by simpa using e5, ?_⟩⟩
    rw [Nat.mul_one] at e6 ⊢
    rw [List.length_set, Array.toList_setIfInBounds, List.take_set, e6]
    simp [U, List.map_set]

theorem xor_85 (x : UInt8) : bits BinOp.xor IntKind.u8 (x.toNat : Int) 85 = ((x ^^^ 85).toNat : Int) := by
  rw [show (85 : Int) = ((85 : Nat) : Int) from rfl, u8_xor_nat _ _ x.toNat_lt (by omega), UInt8.toNat_xor]
  rfl
theorem frameOf_length (l : List UInt8) : (frameOf l).length = l.length + 12 := by simp [frameOf, be4]
def Kept (w : World) (v : Value) (S : ByteArray) : Prop := ∀ W, Below w.heap.size w W → (convert 22 9 v).run Try.prog W = .ok (.string S) W
theorem kept_own {B : Nat} {w : World} {v : Value} {o : List UInt8} (h : Own 5 B w v o) (hl : o.length ≤ 1000000) : Kept w v ⟨o.toArray⟩ := by
  intro W hW
  obtain ⟨a, cp, rfl, hin, -⟩ := own_in (h.below hW (Nat.le_refl _)) (by omega)
  exact string_in Try.underlying22 Try.underlying5 Try.underlying9 hin

set_option maxHeartbeats 1000000 in
theorem writes (l : List UInt8) (a : Option Addr) (n cp : Nat) (more : Int) (w : World) (hl : In w a n cp l) (m0 : -9223372036854775808 ≤ more) (m1 : more ≤ 9223372036854775807) :
    Calls Try.prog 4 #[.slice a n cp, .int .i64 more] w fun e w' => e = .returned (.bool true) ∧ Below w.heap.size w w' := by
  obtain ⟨i0, hi, hz0, hz1, hz2⟩ := info_parts info5
  have HL : Hid (In w a n cp l) := hl
  have HLL : Hid (l.length = n) := hl.1
  have b1 := hl.2.2.1
  clear hl
  by_cases hbig : 100000 < n
  · have q : (100000 : Int) < (n : Int) := by omega
    go_enter Try.func4, Try.ntmps4
    go_wp2_with (go_at_call 5; refine (lives_is w).mono ?_; rintro e w1 ⟨rfl, hw1⟩)
    go_ret
    exact ⟨rfl, hw1⟩
  have q : (n : Int) ≤ 100000 := by omega
  have HN : Hid (n ≤ 100000) := by show n ≤ 100000; omega
  clear hbig b1
  by_cases hmore : 0 < more ∧ more ≤ 70000
  · obtain ⟨k, rfl⟩ : ∃ k : Nat, more = (k : Int) := ⟨more.toNat, by omega⟩
    have r1 : (0 : Int) < (k : Int) := hmore.1
    have r2 : (k : Int) ≤ 70000 := hmore.2
    have HK : Hid (0 < k ∧ k ≤ 70000) := by constructor <;> omega
    clear hmore m0 m1
    have H00 : Hid ((w.alloc (.cells #[] 5)).ownsRow w.heap.size 5 1 (.slice (some ⟨w.heap.size, 0, none⟩) 0 0) 0 (U [])) := World.ownsRow_made w #[] 0 (Nat.le_refl _) (by unfold maxLen; omega) rfl
    have HB00 : Hid (Below w.heap.size w (w.alloc (.cells #[] 5))) := (Below.refl _ _).alloc (Nat.le_refl _) _
    go_enter Try.func4, Try.ntmps4
    go_wp2_with (at_builtin; refine wpList_append_in _ rfl (.tmp 22) (.tmp 23) 22 rfl w.heap.size 5 i0 Try.underlying22 hi hz0 hz1 hz2 _ [] 0 rfl rfl H00.out a n cp l rfl (HL.out.below HB00.out) (by have := HN.out; omega) HB00.out.size ?_)
    intro va wa howna hga
    have HBa : Hid (Below w.heap.size w wa) := HB00.out.grown hga HB00.out.size (by intro b hb; simp [Value.ownBlock] at hb; omega)
    obtain ⟨vb, W0, hrun, hownb, hgb⟩ := zeros_own (P := Try.prog) wa 22 3 22 5 i0 .i64 Try.underlying22 Try.underlying3 hi hz0 hz1 hz2 va l w.heap.size howna HBa.out.size k HK.out.1 (by rw [HLL.out]; have := HN.out; have := HK.out.2; omega)
    have HB : Hid (Below w.heap.size w W0) := HBa.out.grown hgb HBa.out.size (by intro b hb; exact (World.ownsRow.lt howna b hb).1)
    have HRUN : Hid ((Builtin.append_ #[22, 3] 22 #[va, .int .i64 k]).run Try.prog wa = .ok vb W0) := hrun
    obtain ⟨l', hl'⟩ : ∃ l', l' = l ++ List.replicate k 0 := ⟨_, rfl⟩
    rw [← hl'] at hownb
    have hll : l'.length = n + k := by rw [hl', List.length_append, HLL.out]; simp
    obtain ⟨a', cp', rfl, hin', -⟩ := own_in hownb (by rw [hll]; have := HN.out; have := HK.out.2; omega)
    obtain ⟨n', hn'⟩ : ∃ n', n' = n + k := ⟨_, rfl⟩
    rw [hll, ← hn'] at hin'
    rw [hll, ← hn'] at HRUN
    have HI : Hid (In W0 a' n' cp' l') := hin'
    have HLL' : Hid (l'.length = n') := by rw [hn']; exact hll
    have HN' : Hid (n' ≤ 170000) := by rw [hn']; have := HN.out; have := HK.out.2; show n + k ≤ 170000; omega
    have s1 : (n' : Int) ≤ 170000 := by have := HN'.out; omega
    clear howna hga hrun hownb hgb hl' hll hin' hn'
    have H0 : Hid ((W0.alloc (.cells #[] 5)).ownsRow W0.heap.size 5 1 (.slice (some ⟨W0.heap.size, 0, none⟩) 0 0) 0 (U [])) := World.ownsRow_made W0 #[] 0 (Nat.le_refl _) (by unfold maxLen; omega) rfl
    have HB0 : Hid (Below W0.heap.size W0 (W0.alloc (.cells #[] 5))) := (Below.refl _ _).alloc (Nat.le_refl _) _
    go_wp2_with (first
      | (at_builtin; refine Lib.wpList_append_run _ rfl (.tmp 24) (.tmp 25) 22 3 rfl va (.int .i64 k) rfl rfl _ W0 HRUN.out ?_)
      | (at_builtin; refine wpList_append_in _ rfl (.tmp 27) (.tmp 28) 22 rfl W0.heap.size 5 i0 Try.underlying22 hi hz0 hz1 hz2 _ [] 0 rfl rfl H0.out a' n' cp' l' rfl (HI.out.below HB0.out) (by have := HN'.out; omega) HB0.out.size ?_))
    intro v1 w1 hown1 hg1
    have HW1 : Hid (Below W0.heap.size W0 w1) := HB0.out.grown hg1 HB0.out.size (by intro b hb; simp [Value.ownBlock] at hb; omega)
    obtain ⟨ag, cg, rfl, hin1, -⟩ := own_in hown1 (by rw [HLL'.out]; have := HN'.out; omega)
    rw [HLL'.out] at hin1 ⊢
    have HG : Hid (In w1 ag n' cg l') := hin1
    obtain ⟨SL, hSL⟩ : ∃ S : ByteArray, S = ⟨l'.toArray⟩ := ⟨_, rfl⟩
    have HSL : Hid (SL = ⟨l'.toArray⟩) := hSL
    clear hown1 hg1 hin1 hSL
    by_cases hlong : 65536 < n'
    · have HLONG : Hid (65536 < n') := hlong
      clear hlong
      go_wp2_with (first
        | (go_at_call 8; refine (frame_long l' ag n' cg w1 HG.out HLONG.out).mono ?_; rintro e w2 ⟨rfl, rfl⟩)
        | (go_at_call 9; refine (refFrame_long l' a' n' cp' w1 (HI.out.below HW1.out) HLONG.out).mono ?_; rintro e w2 ⟨rfl, rfl⟩; have kn := string_in Try.underlying22 Try.underlying5 Try.underlying9 (In.nil w1)))
      go_loopw [52] (fun i wr => i = .int .i64 0 ∧ w1 = wr) (fun _ _ => 0)
      case atStart => exact ⟨rfl, rfl⟩
      case round =>
        obtain ⟨rfl, rfl⟩ := hrel
        have k1 : (convert 22 9 (.slice ag n' cg)).run Try.prog w1 = .ok (.string SL) w1 := by rw [HSL.out]; exact string_in Try.underlying22 Try.underlying5 Try.underlying9 HG.out
        have k2 : (convert 22 9 (.slice a' n' cp')).run Try.prog w1 = .ok (.string SL) w1 := by rw [HSL.out]; exact string_in Try.underlying22 Try.underlying5 Try.underlying9 (HI.out.below HW1.out)
        go_wp2_with (go_at_call 5; refine (lives_is w1).mono ?_; rintro e w5 ⟨rfl, hw5⟩)
        go_ret
        have hs0 := HB.out.size
        have hs1 := HW1.out.size
        exact ⟨rfl, (HB.out.trans (HW1.out.mono hs0)).trans (hw5.mono (by omega))⟩
    · have HSHORT : Hid (n' ≤ 65536) := by show n' ≤ 65536; omega
      clear hlong
      go_wp2_with fail
      refine (frame_is l' ag n' cg w1 HG.out HSHORT.out).mono ?_
      rintro e w2 ⟨v2, rfl, ho2, hb2⟩
      have hFL : (frameOf l').length = n' + 12 := by rw [frameOf_length, HLL'.out]
      have HFL : Hid ((frameOf l').length = n' + 12) := hFL
      obtain ⟨ax, cx, rfl, hinx, hshx⟩ := own_in ho2 (by rw [hFL]; have := HSHORT.out; omega)
      obtain ⟨g, rfl, hgB, hgl⟩ := hshx (by rw [hFL]; omega)
      rw [hFL] at ho2 ⊢
      have HX : Hid (Own 5 w1.heap.size w2 (.slice (some ⟨g, 0, none⟩) (n' + 12) cx) (frameOf l')) := ho2
      have HW2 : Hid (Below w1.heap.size w1 w2) := hb2
      clear ho2 hb2 hinx hshx hgl hgB hFL
      go_wp2_with fail
      have HW01 : Hid (Below W0.heap.size W0 w2) := HW1.out.trans (HW2.out.mono HW1.out.size)
      refine (refFrame_is l' a' n' cp' w2 (HI.out.below HW01.out) HSHORT.out).mono ?_
      rintro e w3 ⟨v3, rfl, ho3, hb3⟩
      have HW3 : Hid (Below w2.heap.size w2 w3) := hb3
      obtain ⟨SF, hSF⟩ : ∃ S : ByteArray, S = ⟨(frameOf l').toArray⟩ := ⟨_, rfl⟩
      have f1 : (convert 22 9 (.slice (some ⟨g, 0, none⟩) (n' + 12) cx)).run Try.prog w3 = .ok (.string SF) w3 := by rw [hSF]; exact kept_own HX.out (by rw [HFL.out]; have := HSHORT.out; omega) w3 HW3.out
      have f2 : (convert 22 9 v3).run Try.prog w3 = .ok (.string SF) w3 := by rw [hSF]; exact kept_own ho3 (by rw [HFL.out]; have := HSHORT.out; omega) w3 (Below.refl _ _)
      have HX3 : Hid (Own 5 w1.heap.size w3 (.slice (some ⟨g, 0, none⟩) (n' + 12) cx) (frameOf l')) := HX.out.below HW3.out (Nat.le_refl _)
      have HW13 : Hid (Below w1.heap.size w1 w3) := HW2.out.trans (HW3.out.mono HW2.out.size)
      clear hb3 ho3 hSF
      have q9 : (n' : Int) + 12 ≤ 65548 := by have := HSHORT.out; omega
      obtain ⟨M, hM⟩ : ∃ M, M = n' + 12 := ⟨_, rfl⟩
      have HM : Hid (M = n' + 12) := hM
      have hM1 : M ≤ 65548 := by have := HSHORT.out; omega
      rw [← hM] at f1 HX3 ⊢
      clear q9 hM
      go_wp2_with fail
      go_loopw [52] (fun i wr => ∃ (t : Nat) (xs : List UInt8), i = .int .i64 t ∧ t ≤ M ∧ Hid (xs.length = M) ∧ Hid (Own 5 w1.heap.size wr (.slice (some ⟨g, 0, none⟩) M cx) xs) ∧ Hid (Below w1.heap.size w1 wr)) (fun i _ => M - (intOf i).toNat)
      case atStart => exact ⟨0, frameOf l', rfl, by omega, (show _ = _ by rw [HFL.out, HM.out]), HX3.out, HW13.out⟩
      case round =>
        obtain ⟨t, xs, rfl, ht, hxl, hox, hbx⟩ := hrel
        by_cases hlt : t = M
        · subst hlt
          have HBB : Hid (Below W0.heap.size W0 wr) := HW1.out.trans (hbx.out.mono HW1.out.size)
          have k1 : (convert 22 9 (.slice ag n' cg)).run Try.prog wr = .ok (.string SL) wr := by rw [HSL.out]; exact string_in Try.underlying22 Try.underlying5 Try.underlying9 (HG.out.below hbx.out)
          have k2 : (convert 22 9 (.slice a' n' cp')).run Try.prog wr = .ok (.string SL) wr := by rw [HSL.out]; exact string_in Try.underlying22 Try.underlying5 Try.underlying9 (HI.out.below HBB.out)
          go_wp2_with (go_at_call 5; refine (lives_is wr).mono ?_; rintro e w5 ⟨rfl, hw5⟩)
          go_ret
          have hs0 := HB.out.size
          have hs1 := HBB.out.size
          exact ⟨rfl, (HB.out.trans (HBB.out.mono hs0)).trans (hw5.mono (by omega))⟩
        · have q1 : (t : Int) < (M : Int) := by omega
          have HT : Hid (t < M) := by show t < M; omega
          have htl : t < xs.length := by rw [hxl.out]; exact HT.out
          obtain ⟨c1, c2, hgB, hset⟩ := own_set hox.out hxl.out t htl
          have hset1 := hset (xs[t] ^^^ 85)
          have hx85 := xor_85 xs[t]
          generalize xs[t] = y at c1 hset1 hx85
          generalize y ^^^ 85 = z at hset1 hx85
          have HOS : Hid (Own 5 w1.heap.size (wr.setCell ⟨g, t, none⟩ (.int .u8 (z.toNat : Int))) (.slice (some ⟨g, 0, none⟩) M cx) (xs.set t z)) := hset1
          have HBS : Hid (Below w1.heap.size w1 (wr.setCell ⟨g, t, none⟩ (.int .u8 (z.toNat : Int)))) := hbx.out.setCell hgB _
          clear hset hset1 hlt htl hgB f1 f2
          go_wp2
          refine ⟨⟨t + 1, xs.set t z, by simp, HT.out, (show _ = _ by rw [List.length_set]; exact hxl.out), HOS, HBS⟩, ?_⟩
          have := HT.out
          simp only [intOf]
          omega
  · have hmore2 : more ≤ 0 ∨ 70000 < more := by omega
    have HB : Hid (Below w.heap.size w w) := Below.refl _ _
    obtain ⟨W0, hW0⟩ : ∃ W0, W0 = w := ⟨_, rfl⟩
    obtain ⟨a', ha'⟩ : ∃ a', a' = a := ⟨_, rfl⟩
    obtain ⟨n', hn'⟩ : ∃ n', n' = n := ⟨_, rfl⟩
    obtain ⟨cp', hcp'⟩ : ∃ cp', cp' = cp := ⟨_, rfl⟩
    obtain ⟨l', hl'⟩ : ∃ l', l' = l := ⟨_, rfl⟩
    subst hW0 ha' hn' hcp' hl'
    have HI : Hid (In W0 a' n' cp' l') := HL
    have HLL' : Hid (l'.length = n') := HLL
    have HN' : Hid (n' ≤ 170000) := by have := HN.out; show n' ≤ 170000; omega
    clear hmore
    rcases hmore2 with hneg | hpos
    · go_enter Try.func4, Try.ntmps4
      have H0 : Hid ((W0.alloc (.cells #[] 5)).ownsRow W0.heap.size 5 1 (.slice (some ⟨W0.heap.size, 0, none⟩) 0 0) 0 (U [])) := World.ownsRow_made W0 #[] 0 (Nat.le_refl _) (by unfold maxLen; omega) rfl
      have HB0 : Hid (Below W0.heap.size W0 (W0.alloc (.cells #[] 5))) := (Below.refl _ _).alloc (Nat.le_refl _) _
      go_wp2_with (at_builtin; refine wpList_append_in _ rfl (.tmp 27) (.tmp 28) 22 rfl W0.heap.size 5 i0 Try.underlying22 hi hz0 hz1 hz2 _ [] 0 rfl rfl H0.out a' n' cp' l' rfl (HI.out.below HB0.out) (by have := HN'.out; omega) HB0.out.size ?_)
      intro v1 w1 hown1 hg1
      have HW1 : Hid (Below W0.heap.size W0 w1) := HB0.out.grown hg1 HB0.out.size (by intro b hb; simp [Value.ownBlock] at hb; omega)
      obtain ⟨ag, cg, rfl, hin1, -⟩ := own_in hown1 (by rw [HLL'.out]; have := HN'.out; omega)
      rw [HLL'.out] at hin1 ⊢
      have HG : Hid (In w1 ag n' cg l') := hin1
      obtain ⟨SL, hSL⟩ : ∃ S : ByteArray, S = ⟨l'.toArray⟩ := ⟨_, rfl⟩
      have HSL : Hid (SL = ⟨l'.toArray⟩) := hSL
      clear hown1 hg1 hin1 hSL
      by_cases hlong : 65536 < n'
      · have HLONG : Hid (65536 < n') := hlong
        clear hlong
        go_wp2_with (first
          | (go_at_call 8; refine (frame_long l' ag n' cg w1 HG.out HLONG.out).mono ?_; rintro e w2 ⟨rfl, rfl⟩)
          | (go_at_call 9; refine (refFrame_long l' a' n' cp' w1 (HI.out.below HW1.out) HLONG.out).mono ?_; rintro e w2 ⟨rfl, rfl⟩; have kn := string_in Try.underlying22 Try.underlying5 Try.underlying9 (In.nil w1)))
        go_loopw [52] (fun i wr => i = .int .i64 0 ∧ w1 = wr) (fun _ _ => 0)
        case atStart => exact ⟨rfl, rfl⟩
        case round =>
          obtain ⟨rfl, rfl⟩ := hrel
          have k1 : (convert 22 9 (.slice ag n' cg)).run Try.prog w1 = .ok (.string SL) w1 := by rw [HSL.out]; exact string_in Try.underlying22 Try.underlying5 Try.underlying9 HG.out
          have k2 : (convert 22 9 (.slice a' n' cp')).run Try.prog w1 = .ok (.string SL) w1 := by rw [HSL.out]; exact string_in Try.underlying22 Try.underlying5 Try.underlying9 (HI.out.below HW1.out)
          go_wp2_with (go_at_call 5; refine (lives_is w1).mono ?_; rintro e w5 ⟨rfl, hw5⟩)
          go_ret
          have hs0 := HB.out.size
          have hs1 := HW1.out.size
          exact ⟨rfl, (HB.out.trans (HW1.out.mono hs0)).trans (hw5.mono (by omega))⟩
      · have HSHORT : Hid (n' ≤ 65536) := by show n' ≤ 65536; omega
        clear hlong
        go_wp2_with fail
        refine (frame_is l' ag n' cg w1 HG.out HSHORT.out).mono ?_
        rintro e w2 ⟨v2, rfl, ho2, hb2⟩
        have hFL : (frameOf l').length = n' + 12 := by rw [frameOf_length, HLL'.out]
        have HFL : Hid ((frameOf l').length = n' + 12) := hFL
        obtain ⟨ax, cx, rfl, hinx, hshx⟩ := own_in ho2 (by rw [hFL]; have := HSHORT.out; omega)
        obtain ⟨g, rfl, hgB, hgl⟩ := hshx (by rw [hFL]; omega)
        rw [hFL] at ho2 ⊢
        have HX : Hid (Own 5 w1.heap.size w2 (.slice (some ⟨g, 0, none⟩) (n' + 12) cx) (frameOf l')) := ho2
        have HW2 : Hid (Below w1.heap.size w1 w2) := hb2
        clear ho2 hb2 hinx hshx hgl hgB hFL
        go_wp2_with fail
        have HW01 : Hid (Below W0.heap.size W0 w2) := HW1.out.trans (HW2.out.mono HW1.out.size)
        refine (refFrame_is l' a' n' cp' w2 (HI.out.below HW01.out) HSHORT.out).mono ?_
        rintro e w3 ⟨v3, rfl, ho3, hb3⟩
        have HW3 : Hid (Below w2.heap.size w2 w3) := hb3
        obtain ⟨SF, hSF⟩ : ∃ S : ByteArray, S = ⟨(frameOf l').toArray⟩ := ⟨_, rfl⟩
        have f1 : (convert 22 9 (.slice (some ⟨g, 0, none⟩) (n' + 12) cx)).run Try.prog w3 = .ok (.string SF) w3 := by rw [hSF]; exact kept_own HX.out (by rw [HFL.out]; have := HSHORT.out; omega) w3 HW3.out
        have f2 : (convert 22 9 v3).run Try.prog w3 = .ok (.string SF) w3 := by rw [hSF]; exact kept_own ho3 (by rw [HFL.out]; have := HSHORT.out; omega) w3 (Below.refl _ _)
        have HX3 : Hid (Own 5 w1.heap.size w3 (.slice (some ⟨g, 0, none⟩) (n' + 12) cx) (frameOf l')) := HX.out.below HW3.out (Nat.le_refl _)
        have HW13 : Hid (Below w1.heap.size w1 w3) := HW2.out.trans (HW3.out.mono HW2.out.size)
        clear hb3 ho3 hSF
        have q9 : (n' : Int) + 12 ≤ 65548 := by have := HSHORT.out; omega
        obtain ⟨M, hM⟩ : ∃ M, M = n' + 12 := ⟨_, rfl⟩
        have HM : Hid (M = n' + 12) := hM
        have hM1 : M ≤ 65548 := by have := HSHORT.out; omega
        rw [← hM] at f1 HX3 ⊢
        clear q9 hM
        go_wp2_with fail
        go_loopw [52] (fun i wr => ∃ (t : Nat) (xs : List UInt8), i = .int .i64 t ∧ t ≤ M ∧ Hid (xs.length = M) ∧ Hid (Own 5 w1.heap.size wr (.slice (some ⟨g, 0, none⟩) M cx) xs) ∧ Hid (Below w1.heap.size w1 wr)) (fun i _ => M - (intOf i).toNat)
        case atStart => exact ⟨0, frameOf l', rfl, by omega, (show _ = _ by rw [HFL.out, HM.out]), HX3.out, HW13.out⟩
        case round =>
          obtain ⟨t, xs, rfl, ht, hxl, hox, hbx⟩ := hrel
          by_cases hlt : t = M
          · subst hlt
            have HBB : Hid (Below W0.heap.size W0 wr) := HW1.out.trans (hbx.out.mono HW1.out.size)
            have k1 : (convert 22 9 (.slice ag n' cg)).run Try.prog wr = .ok (.string SL) wr := by rw [HSL.out]; exact string_in Try.underlying22 Try.underlying5 Try.underlying9 (HG.out.below hbx.out)
            have k2 : (convert 22 9 (.slice a' n' cp')).run Try.prog wr = .ok (.string SL) wr := by rw [HSL.out]; exact string_in Try.underlying22 Try.underlying5 Try.underlying9 (HI.out.below HBB.out)
            go_wp2_with (go_at_call 5; refine (lives_is wr).mono ?_; rintro e w5 ⟨rfl, hw5⟩)
            go_ret
            have hs0 := HB.out.size
            have hs1 := HBB.out.size
            exact ⟨rfl, (HB.out.trans (HBB.out.mono hs0)).trans (hw5.mono (by omega))⟩
          · have q1 : (t : Int) < (M : Int) := by omega
            have HT : Hid (t < M) := by show t < M; omega
            have htl : t < xs.length := by rw [hxl.out]; exact HT.out
            obtain ⟨c1, c2, hgB, hset⟩ := own_set hox.out hxl.out t htl
            have hset1 := hset (xs[t] ^^^ 85)
            have hx85 := xor_85 xs[t]
            generalize xs[t] = y at c1 hset1 hx85
            generalize y ^^^ 85 = z at hset1 hx85
            have HOS : Hid (Own 5 w1.heap.size (wr.setCell ⟨g, t, none⟩ (.int .u8 (z.toNat : Int))) (.slice (some ⟨g, 0, none⟩) M cx) (xs.set t z)) := hset1
            have HBS : Hid (Below w1.heap.size w1 (wr.setCell ⟨g, t, none⟩ (.int .u8 (z.toNat : Int)))) := hbx.out.setCell hgB _
            clear hset hset1 hlt htl hgB f1 f2
            go_wp2
            refine ⟨⟨t + 1, xs.set t z, by simp, HT.out, (show _ = _ by rw [List.length_set]; exact hxl.out), HOS, HBS⟩, ?_⟩
            have := HT.out
            simp only [intOf]
            omega
    · have hpos2 : 0 < more := by omega
      go_enter Try.func4, Try.ntmps4
      have H0 : Hid ((W0.alloc (.cells #[] 5)).ownsRow W0.heap.size 5 1 (.slice (some ⟨W0.heap.size, 0, none⟩) 0 0) 0 (U [])) := World.ownsRow_made W0 #[] 0 (Nat.le_refl _) (by unfold maxLen; omega) rfl
      have HB0 : Hid (Below W0.heap.size W0 (W0.alloc (.cells #[] 5))) := (Below.refl _ _).alloc (Nat.le_refl _) _
      go_wp2_with (at_builtin; refine wpList_append_in _ rfl (.tmp 27) (.tmp 28) 22 rfl W0.heap.size 5 i0 Try.underlying22 hi hz0 hz1 hz2 _ [] 0 rfl rfl H0.out a' n' cp' l' rfl (HI.out.below HB0.out) (by have := HN'.out; omega) HB0.out.size ?_)
      intro v1 w1 hown1 hg1
      have HW1 : Hid (Below W0.heap.size W0 w1) := HB0.out.grown hg1 HB0.out.size (by intro b hb; simp [Value.ownBlock] at hb; omega)
      obtain ⟨ag, cg, rfl, hin1, -⟩ := own_in hown1 (by rw [HLL'.out]; have := HN'.out; omega)
      rw [HLL'.out] at hin1 ⊢
      have HG : Hid (In w1 ag n' cg l') := hin1
      obtain ⟨SL, hSL⟩ : ∃ S : ByteArray, S = ⟨l'.toArray⟩ := ⟨_, rfl⟩
      have HSL : Hid (SL = ⟨l'.toArray⟩) := hSL
      clear hown1 hg1 hin1 hSL
      by_cases hlong : 65536 < n'
      · have HLONG : Hid (65536 < n') := hlong
        clear hlong
        go_wp2_with (first
          | (go_at_call 8; refine (frame_long l' ag n' cg w1 HG.out HLONG.out).mono ?_; rintro e w2 ⟨rfl, rfl⟩)
          | (go_at_call 9; refine (refFrame_long l' a' n' cp' w1 (HI.out.below HW1.out) HLONG.out).mono ?_; rintro e w2 ⟨rfl, rfl⟩; have kn := string_in Try.underlying22 Try.underlying5 Try.underlying9 (In.nil w1)))
        go_loopw [52] (fun i wr => i = .int .i64 0 ∧ w1 = wr) (fun _ _ => 0)
        case atStart => exact ⟨rfl, rfl⟩
        case round =>
          obtain ⟨rfl, rfl⟩ := hrel
          have k1 : (convert 22 9 (.slice ag n' cg)).run Try.prog w1 = .ok (.string SL) w1 := by rw [HSL.out]; exact string_in Try.underlying22 Try.underlying5 Try.underlying9 HG.out
          have k2 : (convert 22 9 (.slice a' n' cp')).run Try.prog w1 = .ok (.string SL) w1 := by rw [HSL.out]; exact string_in Try.underlying22 Try.underlying5 Try.underlying9 (HI.out.below HW1.out)
          go_wp2_with (go_at_call 5; refine (lives_is w1).mono ?_; rintro e w5 ⟨rfl, hw5⟩)
          go_ret
          have hs0 := HB.out.size
          have hs1 := HW1.out.size
          exact ⟨rfl, (HB.out.trans (HW1.out.mono hs0)).trans (hw5.mono (by omega))⟩
      · have HSHORT : Hid (n' ≤ 65536) := by show n' ≤ 65536; omega
        clear hlong
        go_wp2_with fail
        refine (frame_is l' ag n' cg w1 HG.out HSHORT.out).mono ?_
        rintro e w2 ⟨v2, rfl, ho2, hb2⟩
        have hFL : (frameOf l').length = n' + 12 := by rw [frameOf_length, HLL'.out]
        have HFL : Hid ((frameOf l').length = n' + 12) := hFL
        obtain ⟨ax, cx, rfl, hinx, hshx⟩ := own_in ho2 (by rw [hFL]; have := HSHORT.out; omega)
        obtain ⟨g, rfl, hgB, hgl⟩ := hshx (by rw [hFL]; omega)
        rw [hFL] at ho2 ⊢
        have HX : Hid (Own 5 w1.heap.size w2 (.slice (some ⟨g, 0, none⟩) (n' + 12) cx) (frameOf l')) := ho2
        have HW2 : Hid (Below w1.heap.size w1 w2) := hb2
        clear ho2 hb2 hinx hshx hgl hgB hFL
        go_wp2_with fail
        have HW01 : Hid (Below W0.heap.size W0 w2) := HW1.out.trans (HW2.out.mono HW1.out.size)
        refine (refFrame_is l' a' n' cp' w2 (HI.out.below HW01.out) HSHORT.out).mono ?_
        rintro e w3 ⟨v3, rfl, ho3, hb3⟩
        have HW3 : Hid (Below w2.heap.size w2 w3) := hb3
        obtain ⟨SF, hSF⟩ : ∃ S : ByteArray, S = ⟨(frameOf l').toArray⟩ := ⟨_, rfl⟩
        have f1 : (convert 22 9 (.slice (some ⟨g, 0, none⟩) (n' + 12) cx)).run Try.prog w3 = .ok (.string SF) w3 := by rw [hSF]; exact kept_own HX.out (by rw [HFL.out]; have := HSHORT.out; omega) w3 HW3.out
        have f2 : (convert 22 9 v3).run Try.prog w3 = .ok (.string SF) w3 := by rw [hSF]; exact kept_own ho3 (by rw [HFL.out]; have := HSHORT.out; omega) w3 (Below.refl _ _)
        have HX3 : Hid (Own 5 w1.heap.size w3 (.slice (some ⟨g, 0, none⟩) (n' + 12) cx) (frameOf l')) := HX.out.below HW3.out (Nat.le_refl _)
        have HW13 : Hid (Below w1.heap.size w1 w3) := HW2.out.trans (HW3.out.mono HW2.out.size)
        clear hb3 ho3 hSF
        have q9 : (n' : Int) + 12 ≤ 65548 := by have := HSHORT.out; omega
        obtain ⟨M, hM⟩ : ∃ M, M = n' + 12 := ⟨_, rfl⟩
        have HM : Hid (M = n' + 12) := hM
        have hM1 : M ≤ 65548 := by have := HSHORT.out; omega
        rw [← hM] at f1 HX3 ⊢
        clear q9 hM
        go_wp2_with fail
        go_loopw [52] (fun i wr => ∃ (t : Nat) (xs : List UInt8), i = .int .i64 t ∧ t ≤ M ∧ Hid (xs.length = M) ∧ Hid (Own 5 w1.heap.size wr (.slice (some ⟨g, 0, none⟩) M cx) xs) ∧ Hid (Below w1.heap.size w1 wr)) (fun i _ => M - (intOf i).toNat)
        case atStart => exact ⟨0, frameOf l', rfl, by omega, (show _ = _ by rw [HFL.out, HM.out]), HX3.out, HW13.out⟩
        case round =>
          obtain ⟨t, xs, rfl, ht, hxl, hox, hbx⟩ := hrel
          by_cases hlt : t = M
          · subst hlt
            have HBB : Hid (Below W0.heap.size W0 wr) := HW1.out.trans (hbx.out.mono HW1.out.size)
            have k1 : (convert 22 9 (.slice ag n' cg)).run Try.prog wr = .ok (.string SL) wr := by rw [HSL.out]; exact string_in Try.underlying22 Try.underlying5 Try.underlying9 (HG.out.below hbx.out)
            have k2 : (convert 22 9 (.slice a' n' cp')).run Try.prog wr = .ok (.string SL) wr := by rw [HSL.out]; exact string_in Try.underlying22 Try.underlying5 Try.underlying9 (HI.out.below HBB.out)
            go_wp2_with (go_at_call 5; refine (lives_is wr).mono ?_; rintro e w5 ⟨rfl, hw5⟩)
            go_ret
            have hs0 := HB.out.size
            have hs1 := HBB.out.size
            exact ⟨rfl, (HB.out.trans (HBB.out.mono hs0)).trans (hw5.mono (by omega))⟩
          · have q1 : (t : Int) < (M : Int) := by omega
            have HT : Hid (t < M) := by show t < M; omega
            have htl : t < xs.length := by rw [hxl.out]; exact HT.out
            obtain ⟨c1, c2, hgB, hset⟩ := own_set hox.out hxl.out t htl
            have hset1 := hset (xs[t] ^^^ 85)
            have hx85 := xor_85 xs[t]
            generalize xs[t] = y at c1 hset1 hx85
            generalize y ^^^ 85 = z at hset1 hx85
            have HOS : Hid (Own 5 w1.heap.size (wr.setCell ⟨g, t, none⟩ (.int .u8 (z.toNat : Int))) (.slice (some ⟨g, 0, none⟩) M cx) (xs.set t z)) := hset1
            have HBS : Hid (Below w1.heap.size w1 (wr.setCell ⟨g, t, none⟩ (.int .u8 (z.toNat : Int)))) := hbx.out.setCell hgB _
            clear hset hset1 hlt htl hgB f1 f2
            go_wp2
            refine ⟨⟨t + 1, xs.set t z, by simp, HT.out, (show _ = _ by rw [List.length_set]; exact hxl.out), HOS, HBS⟩, ?_⟩
            have := HT.out
            simp only [intOf]
            omega
#print axioms writes
end Go.Proofs.Ytokmdnmnhkdadaa.Oct
