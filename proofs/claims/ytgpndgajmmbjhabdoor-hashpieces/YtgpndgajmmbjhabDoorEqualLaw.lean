/-
  Layer 2 (hash): the law on 'Equal'.
-/
import Derived.Test.YtgpndgajmmbjhabDoorEqual
import Derived.Test.YtgpndgajmmbjhabDoorSlices
import Derived.Test.YtgpndgajmmbjhabDoorLives
namespace Go.Proofs.YtgpndgajmmbjhabDoor.Oct
open Go.RowKit Sha

theorem below_drewN {B : Nat} {a w : World} (h : Below B a w) (n : Nat) : Below B a (w.drewN n) := ⟨h.os, h.tape, h.output, h.size, h.block⟩

theorem strEq (l r : List UInt8) : ((⟨l.toArray⟩ : ByteArray).toList == (⟨r.toArray⟩ : ByteArray).toList) = decide (l = r) := by
  rw [ByteArray.toList_eq, ByteArray.toList_eq]
  simp [Bool.beq_eq_decide_eq]

/-- one byte of an own slice is another one -/
theorem own_cell {B : Nat} {w : World} {g n cc : Nat} {l : List UInt8} (h : Own 5 B w (.slice (some ⟨g, 0, none⟩) n cc) l) (t : Nat) (ht : t < l.length) (hn : l.length = n) (hb : n ≤ 140737488355328) :
    w.cell? ⟨g, t, none⟩ = some (.int .u8 (l[t].toNat : Int)) ∧ w.frozen? ⟨g, t, none⟩ = false ∧ ∀ x : UInt8, In (w.setCell ⟨g, t, none⟩ (.int .u8 (x.toNat : Int))) (some ⟨g, 0, none⟩) n cc (l.set t x) := by
  rcases h.2 with ⟨h1, h2⟩ | ⟨g', cap, cur, e1, e2, hg, e3, e4, e5, e6⟩
  · omega
  · simp only [Value.slice.injEq, Option.some.injEq, Addr.mk.injEq] at e1
    obtain ⟨⟨rfl, _⟩, _, rfl⟩ := e1
    have hB : Blk w g 5 cur.toList := by unfold Blk; simpa using hg
    have hc : ∀ i (hi : i < l.length), cur.toList[i]? = some (.int .u8 (l[i].toNat : Int)) := by
      intro i hi
      have e7 : (cur.toList.take (l.length * 1))[i]? = (U l)[i]? := by rw [e6]
      rw [U_get l i hi, List.getElem?_take, if_pos (by omega)] at e7
      exact e7
    refine ⟨hB.cell (hc t ht), hB.free _, fun x => ⟨by simpa using hn, by omega, hb, by simp, fun _ => ⟨g, 0, rfl, by simpa using hB.lt, fun i c hi => ?_⟩⟩⟩
    have h3 := hB.set t (.int .u8 (x.toNat : Int))
    rw [Nat.zero_add]
    refine h3.cell ?_
    have hil : i < l.length := by have := (List.getElem?_eq_some_iff.1 hi).1; simpa using this
    rw [List.getElem?_set] at hi ⊢
    by_cases hit : t = i
    · subst hit
      rw [if_pos rfl, if_pos ht] at hi
      rw [if_pos rfl, if_pos (by simp; omega)]
      rw [Option.some.inj hi]
    · rw [if_neg hit] at hi ⊢
      rw [hc i hil]
      rw [List.getElem?_eq_getElem hil] at hi
      rw [Option.some.inj hi]
theorem set_ne {l : List UInt8} {t : Nat} (ht : t < l.length) : ¬ l = l.set t (l[t] ^^^ 1) := by
  intro h
  have e : l[t] = (l.set t (l[t] ^^^ 1))[t]'(by simpa using ht) := by congr 1
  rw [List.getElem_set_self] at e
  have h2 := congrArg UInt8.toBitVec e
  rw [UInt8.toBitVec_xor] at h2
  generalize l[t].toBitVec = x at h2
  have : ∀ x : BitVec 8, ¬ x = x ^^^ UInt8.toBitVec 1 := by decide +kernel
  exact this x h2
theorem xor_one (x : UInt8) : bits BinOp.xor IntKind.u8 (x.toNat : Int) 1 = ((x ^^^ 1).toNat : Int) := by
  rw [show (1 : Int) = ((1 : Nat) : Int) from rfl, u8_xor_nat _ _ (lt8 _) (by omega), UInt8.toNat_xor]
  rfl

set_option maxHeartbeats 1000000 in
set_option maxRecDepth 100000 in
theorem equalLaw (l r : List UInt8) (a b : Option Addr) (n m cp cq : Nat) (k : Int) (w : World) (hk : KT w) (hs : ST w) (hl : In w a n cp l) (hr : In w b m cq r) (k0 : -9223372036854775808 ≤ k) (k1 : k ≤ 9223372036854775807) :
    Calls Tryd.prog 6 #[.slice a n cp, .slice b m cq, .int .i64 k] w fun e w' => e = .returned (.bool true) ∧ Below w.heap.size w w' := by
  obtain ⟨i0, hi, hz0, hz1, hz2⟩ := info_parts info5
  have HK : Hid (KT w) := hk
  have HS : Hid (ST w) := hs
  have HL : Hid (In w a n cp l) := hl
  have HR : Hid (In w b m cq r) := hr
  have HLL : Hid (l.length = n) := hl.1
  have HNB : Hid (n ≤ 140737488355328) := hl.2.2.1
  clear hk hs hl hr
  have H0 : Hid ((w.alloc (.cells #[] 5)).ownsRow w.heap.size 5 1 (.slice (some ⟨w.heap.size, 0, none⟩) 0 0) 0 (U [])) := World.ownsRow_made w #[] 0 (Nat.le_refl _) (by unfold maxLen; omega) rfl
  have HB0 : Hid (Below w.heap.size w (w.alloc (.cells #[] 5))) := (Below.refl _ _).alloc (Nat.le_refl _) _
  go_enter Tryd.func6, Tryd.ntmps6
  go_wp2_with (at_builtin; refine wpList_append_in _ rfl (.tmp 8) (.tmp 9) 22 rfl w.heap.size 5 i0 Tryd.underlying22 hi hz0 hz1 hz2 _ [] 0 rfl rfl H0.out a n cp l rfl (HL.out.below HB0.out) (by have := HNB.out; omega) HB0.out.size ?_)
  intro v1 w1 hown1 hg1
  have HB1 : Hid (Below w.heap.size w w1) := HB0.out.grown hg1 HB0.out.size (by intro b hb; simp [Value.ownBlock] at hb; omega)
  obtain ⟨ac, cc, rfl, hin1, hsh1⟩ := own_in hown1 (by rw [HLL.out]; exact HNB.out)
  rw [HLL.out] at hin1 hsh1 hown1 ⊢
  have HO1 : Hid (Own 5 w.heap.size w1 (.slice ac n cc) l) := hown1
  have HC : Hid (In w1 ac n cc l) := hin1
  have HSH : Hid (0 < n → ∃ g, ac = some ⟨g, 0, none⟩ ∧ w.heap.size ≤ g ∧ g < w1.heap.size) := hsh1
  clear hown1 hg1 hin1 hsh1
  obtain ⟨S1, hS1⟩ : ∃ S : ByteArray, S = ⟨l.toArray⟩ := ⟨_, rfl⟩
  obtain ⟨S2, hS2⟩ : ∃ S : ByteArray, S = ⟨r.toArray⟩ := ⟨_, rfl⟩
  have hc1 : ∀ W, Below w.heap.size w W → (convert 22 9 (.slice a n cp)).run Tryd.prog W = .ok (.string S1) W := by
    intro W hW; rw [hS1]; exact string_in Tryd.underlying22 Tryd.underlying5 Tryd.underlying9 (HL.out.below hW)
  have hc2 : ∀ W, Below w.heap.size w W → (convert 22 9 (.slice b m cq)).run Tryd.prog W = .ok (.string S2) W := by
    intro W hW; rw [hS2]; exact string_in Tryd.underlying22 Tryd.underlying5 Tryd.underlying9 (HR.out.below hW)
  have HC1 : Hid (∀ W, Below w.heap.size w W → (convert 22 9 (.slice a n cp)).run Tryd.prog W = .ok (.string S1) W) := hc1
  have HC2 : Hid (∀ W, Below w.heap.size w W → (convert 22 9 (.slice b m cq)).run Tryd.prog W = .ok (.string S2) W) := hc2
  have HS1 : Hid (S1 = ⟨l.toArray⟩) := hS1
  have HS2 : Hid (S2 = ⟨r.toArray⟩) := hS2
  obtain ⟨D, hD⟩ : ∃ D, D = decide (l = r) := ⟨_, rfl⟩
  have HD : Hid (D = decide (l = r)) := hD
  have hq : (S1.toList == S2.toList) = D := by rw [hS1, hS2, hD]; exact strEq l r
  clear hS1 hS2 hc1 hc2 hD
  go_wp2_with fail
  have d1 := HC1.out w1.drew HB1.out.drew
  have d2 := HC2.out w1.drew HB1.out.drew
  go_region_held (fun w' => (convert 22 9 (.slice a n cp)).run Tryd.prog w' = .ok (.string S1) w' ∧ (convert 22 9 (.slice b m cq)).run Tryd.prog w' = .ok (.string S2) w') (first | exact ⟨d1, d2⟩ | exact ⟨HC1.out _ (below_drewN HB1.out _), HC2.out _ (below_drewN HB1.out _)⟩)
    (first
    | (go_at_call 19; with_reducible refine (equal_is l l a ac n n cp cc _ (HL.out.below (below_drewN HB1.out _)) (HC.out.below (below_drewN (Below.refl _ w1) _))).mono ?_; rintro e w3 ⟨rfl, j3, rfl⟩)
    | (go_at_call 19; refine (equal_is l r a b n m cp cq _ (HL.out.below HB1.out.drew) (HR.out.below HB1.out.drew)).mono ?_; rintro e w2 ⟨rfl, j2, rfl⟩; rw [← HD.out]))
  have HW2 : Hid (Below w.heap.size w (w1.drewN (1 + j2 + j3))) := below_drewN HB1.out _
  have HO2 : Hid (Own 5 w.heap.size (w1.drewN (1 + j2 + j3)) (.slice ac n cc) l) := HO1.out
  generalize w1.drewN (1 + j2 + j3) = w2 at *
  have hnb := HNB.out
  by_cases hout : k < 0
  · go_wp2_with (go_at_call 8; refine (lives_is w2 (HK.out.below HW2.out) (HS.out.below HW2.out)).mono ?_; rintro e w4 ⟨rfl, hw4⟩)
    go_ret
    exact ⟨rfl, HW2.out.trans (hw4.mono HW2.out.size)⟩
  · by_cases hout2 : (n : Int) ≤ k
    · go_wp2_with (go_at_call 8; refine (lives_is w2 (HK.out.below HW2.out) (HS.out.below HW2.out)).mono ?_; rintro e w4 ⟨rfl, hw4⟩)
      go_ret
      exact ⟨rfl, HW2.out.trans (hw4.mono HW2.out.size)⟩
    · obtain ⟨t, rfl⟩ : ∃ t : Nat, k = (t : Int) := ⟨k.toNat, by omega⟩
      have htn : t < n := by omega
      obtain ⟨g, rfl, hgB, hgl⟩ := HSH.out (by omega)
      have htl : t < l.length := by rw [HLL.out]; exact htn
      obtain ⟨c1, c2, hset⟩ := own_cell HO2.out t htl HLL.out hnb
      obtain ⟨x, hx⟩ : ∃ x, x = l[t] := ⟨_, rfl⟩
      have hset1 := hset (x ^^^ 1)
      have HX : Hid (bits BinOp.xor IntKind.u8 (x.toNat : Int) 1 = ((x ^^^ 1).toNat : Int)) := xor_one x
      have HNE : Hid (¬ l = l.set t (x ^^^ 1)) := by rw [hx]; exact set_ne htl
      rw [← hx] at c1
      have HG : Hid (w.heap.size ≤ g) := hgB
      have HI : Hid (In (w2.setCell ⟨g, t, none⟩ (.int .u8 ((x ^^^ 1).toNat : Int))) (some ⟨g, 0, none⟩) n cc (l.set t (x ^^^ 1))) := hset1
      have HW3 : Hid (Below w.heap.size w (w2.setCell ⟨g, t, none⟩ (.int .u8 ((x ^^^ 1).toNat : Int)))) := HW2.out.setCell hgB _
      obtain ⟨X, hX⟩ : ∃ X, X = (x.toNat : Int) := ⟨_, rfl⟩
      rw [← hX] at c1 HX
      obtain ⟨Z, hZ⟩ : ∃ Z, Z = ((x ^^^ 1).toNat : Int) := ⟨_, rfl⟩
      rw [← hZ] at HX HI HW3
      have hxx := HX.out
      clear hset hset1 hx hX hZ hgB hgl hout hout2 HSH HO1 HO2 HC d1 d2 htl
      have q1 : (t : Int) < (n : Int) := by omega
      go_wp2_with fail
      generalize w2.setCell ⟨g, t, none⟩ (.int .u8 Z) = w3 at *
      refine (equal_is l (l.set t (x ^^^ 1)) a _ n n cp cc w3 (HL.out.below HW3.out) HI.out).mono ?_
      rintro e w4 ⟨rfl, j4, rfl⟩
      rw [decide_eq_false HNE.out]
      have HW4 : Hid (Below w.heap.size w (w3.drewN j4)) := below_drewN HW3.out j4
      generalize w3.drewN j4 = w4 at *
      go_wp2_with (go_at_call 8; refine (lives_is w4 (HK.out.below HW4.out) (HS.out.below HW4.out)).mono ?_; rintro e w5 ⟨rfl, hw5⟩)
      go_ret
      exact ⟨rfl, HW4.out.trans (hw5.mono HW4.out.size)⟩

#print axioms equalLaw
end Go.Proofs.YtgpndgajmmbjhabDoor.Oct
