/-
  Layer 18 (quota): the law QuotaNobody.
-/
import Derived.Test.YtbkkdjafcmnliaaUnmade
import Derived.Test.YtbkkdjafcmnliaaView
namespace Go.Proofs.Ytbkkdjafcmnliaa.Oct
open Go.RowKit

/-- what the law's loop keeps -/
def NInv (w wr : World) (gb z sl : Nat) (k x b r n : Int) : Prop :=
  Below w.heap.size w wr ∧ Blk wr gb 36 [iv k, iv x, iv b, iv r, iv n] ∧ MAt wr z zeroM ∧ Blk wr sl 25 [.pointer none, .pointer (some ⟨z, 0, none⟩)]
theorem NInv.below {w wr w' : World} {gb z sl : Nat} {k x b r n : Int} (h : NInv w wr gb z sl k x b r n) (hb : Below wr.heap.size wr w') : NInv w w' gb z sl k x b r n := by
  obtain ⟨h1, h2, h3, h4⟩ := h
  exact ⟨h1.trans (hb.mono h1.size), h2.below hb h2.lt, Blk.below h3 hb (Blk.lt h3), h4.below hb h4.lt⟩
theorem run_bs51 (z : Nat) (W : World) : (Instr.buildSlice 51 2 #[(0, .pointer none), (1, .pointer (some ⟨z, 0, none⟩))]).run Try.prog W = .ok (.slice (some ⟨W.heap.size, 0, none⟩) 2 2) (W.alloc (.cells #[.pointer none, .pointer (some ⟨z, 0, none⟩)] 25)) := by kernel_rfl
/-- whom the law asks -/
def who (z i : Nat) : Option Addr := if i = 0 then none else some ⟨z, 0, none⟩
theorem NInv.un {w wr : World} {gb z sl : Nat} {k x b r n : Int} (h : NInv w wr gb z sl k x b r n) (i : Nat) : Un wr (who z i) := by
  unfold who
  split
  · exact .inl rfl
  · exact .inr ⟨z, rfl, h.2.2.1⟩
set_option maxRecDepth 100000 in
set_option maxHeartbeats 2000000 in
theorem nobody_law (k x b r n : Int) (w : World) :
    Calls Try.prog 7 #[.agg #[iv k, iv x, iv b, iv r, iv n]] w fun e w' => e = .returned (.bool true) ∧ Below w.heap.size w w' := by
  have hbs := run_bs51
  obtain ⟨W, hW⟩ : ∃ W, ((w.alloc (.cells #[iv k, iv x, iv b, iv r, iv n] 36)).alloc (.cells #[iv 0, iv 0, iv 0, iv 0, iv 0, iv 0] 50)).alloc (.cells #[.pointer none, .pointer (some ⟨w.heap.size + 1, 0, none⟩)] 25) = W := ⟨_, rfl⟩
  have HI0 : Hid (NInv w W w.heap.size (w.heap.size + 1) (w.heap.size + 1 + 1) k x b r n) := by
    rw [← hW]
    refine ⟨(((Below.refl _ w).alloc (Nat.le_refl _) _).alloc (by simp) _).alloc (by simp; omega) _, ?_, ?_, ?_⟩
    · exact ((Blk.new w #[iv k, iv x, iv b, iv r, iv n] 36).alloc _).alloc _
    · have := (Blk.new (w.alloc (.cells #[iv k, iv x, iv b, iv r, iv n] 36)) #[iv 0, iv 0, iv 0, iv 0, iv 0, iv 0] 50).alloc (.cells #[.pointer none, .pointer (some ⟨w.heap.size + 1, 0, none⟩)] 25)
      rw [World.size_alloc] at this
      exact this
    · have := Blk.new ((w.alloc (.cells #[iv k, iv x, iv b, iv r, iv n] 36)).alloc (.cells #[iv 0, iv 0, iv 0, iv 0, iv 0, iv 0] 50)) #[.pointer none, .pointer (some ⟨w.heap.size + 1, 0, none⟩)] 25
      rw [World.size_alloc, World.size_alloc] at this
      exact this
  have HW : Hid (((w.alloc (.cells #[iv k, iv x, iv b, iv r, iv n] 36)).alloc (.cells #[iv 0, iv 0, iv 0, iv 0, iv 0, iv 0] 50)).alloc (.cells #[.pointer none, .pointer (some ⟨w.heap.size + 1, 0, none⟩)] 25) = W) := hW
  clear hW
  go_enter Try.func7, Try.ntmps7
  go_wp2_with fail
  rw [HW.out]
  obtain ⟨gb, hgb⟩ : ∃ gb, w.heap.size = gb := ⟨_, rfl⟩
  obtain ⟨z, hz⟩ : ∃ z, w.heap.size + 1 = z := ⟨_, rfl⟩
  obtain ⟨sl, hsl⟩ : ∃ sl, w.heap.size + 1 + 1 = sl := ⟨_, rfl⟩
  have HI : Hid (NInv w W gb z sl k x b r n) := by
    have := HI0.out
    rw [hsl, hz] at this
    rwa [hgb] at this
  rw [hsl]
  try rw [hz]
  try rw [hgb]
  clear hgb hz hsl HI0 hbs HW
  go_loopw [9] (fun u wr => ∃ i : Nat, u = .int .i64 (i : Int) ∧ Hid (i ≤ 2 ∧ NInv w wr gb z sl k x b r n)) (fun u _ => 2 - (intOf u).toNat)
  case atStart => exact ⟨0, rfl, ⟨by omega, HI.out⟩⟩
  case round =>
    obtain ⟨i, rfl, HB⟩ := hrel
    by_cases hi : i = 2
    · subst hi
      go_wp2_with fail
      refine (lives_st HB.out.2.1).mono ?_
      rintro e w3 ⟨rfl, h3⟩
      have H3 : Hid (Below w.heap.size w w3) := h3
      clear h3
      go_wp2
      go_ret
      exact ⟨rfl, H3.out⟩
    · have q1 : (i : Int) < (2 : Int) := by have := HB.out.1; omega
      have HI2 : Hid (i < 2) := by show _ < _; have := HB.out.1; omega
      have kv : wr.cell? ⟨sl, i, none⟩ = some (.pointer (who z i)) := by
        refine HB.out.2.2.2.2.cell ?_
        have : i = 0 ∨ i = 1 := by have := HI2.out; omega
        rcases this with rfl | rfl <;> rfl
      have HN : Hid (NInv w wr gb z sl k x b r n) := HB.out.2
      have HU : Hid (Un wr (who z i)) := HN.out.un i
      generalize who z i = p at kv HU
      have c2 : wr.cell? ⟨gb, 2, none⟩ = some (iv b) := HN.out.2.1.cell rfl
      have c3 : wr.cell? ⟨gb, 3, none⟩ = some (iv r) := HN.out.2.1.cell rfl
      have c4 : wr.cell? ⟨gb, 4, none⟩ = some (iv n) := HN.out.2.1.cell rfl
      clear hi HB
      go_wp2_with fail
      refine (un_set HU.out b r n).mono ?_
      rintro e w1 ⟨rfl, hb1⟩
      have HN1 : Hid (NInv w w1 gb z sl k x b r n) := HN.out.below hb1
      have HU1 : Hid (Un w1 p) := HU.out.below hb1
      have c1 : w1.cell? ⟨gb, 1, none⟩ = some (iv x) := HN1.out.2.1.cell rfl
      clear c2 c3 c4 kv hb1
      go_wp2_with (first
        | (go_at_call 11; refine (un_hit HU1.out _).mono ?_; rintro e w4 ⟨rfl, rfl⟩)
        | (go_at_call 13; refine (un_charge HU1.out _).mono ?_; rintro e w4 ⟨rfl, rfl⟩)
        | (go_at_call 15; refine (un_refund HU1.out _).mono ?_; rintro e w4 ⟨rfl, rfl⟩)
        | (go_at_call 20; refine (un_hits HU1.out _).mono ?_; rintro e w5 ⟨rfl, hb5⟩; have HN5 : Hid (NInv w w5 gb z sl k x b r n) := HN1.out.below hb5; have HU5 : Hid (Un w5 p) := HU1.out.below hb5; clear hb5)
        | (go_at_call 19; refine (un_used HU5.out).mono ?_; rintro e w6 ⟨rfl, rfl⟩))
      refine ⟨⟨i + 1, by simp, HI2.out, HN5.out⟩, ?_⟩
      have := HI2.out
      simp only [intOf]
      omega
#print axioms nobody_law
end Go.Proofs.Ytbkkdjafcmnliaa.Oct
