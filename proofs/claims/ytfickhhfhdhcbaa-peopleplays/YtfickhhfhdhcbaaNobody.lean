/-
  Layer 15 (people): the law PeopleNobody.
-/
import Derived.Test.YtfickhhfhdhcbaaNobodyReg
namespace Go.Proofs.Ytfickhhfhdhcbaa.Oct
open Go.RowKit

/-- what the law's loops keep -/
def NInv (w wr : World) (gb z sl : Nat) (a b c : ByteArray) (r : Int) : Prop :=
  Below w.heap.size w wr ∧ (∃ K : Int, Blk wr gb 32 [.int .i64 K, .string a, .string b, .string c, .int .i64 r]) ∧ Blk wr z 51 [.map none, .map none] ∧ Blk wr sl 25 [.pointer none, .pointer (some ⟨z, 0, none⟩)] ∧ w.heap.size ≤ gb ∧ gb ≠ z ∧ gb ≠ sl
theorem NInv.below {w wr w' : World} {gb z sl : Nat} {a b c : ByteArray} {r : Int} (h : NInv w wr gb z sl a b c r) (hb : Below wr.heap.size wr w') : NInv w w' gb z sl a b c r := by
  obtain ⟨h1, ⟨K, h2⟩, h3, h4, h5⟩ := h
  exact ⟨h1.trans (hb.mono h1.size), ⟨K, h2.below hb h2.lt⟩, h3.below hb h3.lt, h4.below hb h4.lt, h5⟩
theorem NInv.set {w wr : World} {gb z sl : Nat} {a b c : ByteArray} {r : Int} (h : NInv w wr gb z sl a b c r) (k : Int) : NInv w (wr.setCell ⟨gb, 0, none⟩ (.int .i64 k)) gb z sl a b c r ∧ Blk (wr.setCell ⟨gb, 0, none⟩ (.int .i64 k)) gb 32 [.int .i64 k, .string a, .string b, .string c, .int .i64 r] := by
  obtain ⟨h1, ⟨K, h2⟩, h3, h4, h5, h6, h7⟩ := h
  have hs := h2.set 0 (.int .i64 k)
  have hg := grown_setCell wr gb 0 (.int .i64 k)
  refine ⟨⟨h1.grown hg h1.size (fun j hj => by cases hj; exact h5), ⟨k, hs⟩, h3.kept hg (by simpa using h6.symm), h4.kept hg (by simpa using h7.symm), h5, h6, h7⟩, hs⟩
theorem built51n (W : World) : (Instr.build 51 #[]).run Try.prog W = .ok (.agg #[.map none, .map none]) W := by kernel_rfl
theorem run_bs52 (z : Nat) (W : World) : (Instr.buildSlice 52 2 #[(0, .pointer none), (1, .pointer (some ⟨z, 0, none⟩))]).run Try.prog W = .ok (.slice (some ⟨W.heap.size, 0, none⟩) 2 2) (W.alloc (.cells #[.pointer none, .pointer (some ⟨z, 0, none⟩)] 25)) := by kernel_rfl
theorem size32 : (Try.prog.info? 32).map (·.size) = some 5 := by kernel_rfl
/-- whom the law asks -/
def who (z i : Nat) : Value := if i = 0 then .pointer none else .pointer (some ⟨z, 0, none⟩)
theorem NInv.un {w wr : World} {gb z sl : Nat} {a b c : ByteArray} {r : Int} (h : NInv w wr gb z sl a b c r) (i : Nat) : Unmade wr (who z i) := by
  unfold who
  split
  · exact .inl rfl
  · exact .inr ⟨z, rfl, h.2.2.1⟩
set_option maxRecDepth 100000 in
set_option maxHeartbeats 2000000 in
theorem nobody_law (k0 : Int) (a b c : ByteArray) (r : Int) (w : World) :
    Calls Try.prog 7 #[.agg #[.int .i64 k0, .string a, .string b, .string c, .int .i64 r]] w fun e w' => e = .returned (.bool true) ∧ Below w.heap.size w w' := by
  have hbd := built51n
  have hbs := run_bs52
  obtain ⟨W, hW⟩ : ∃ W, ((w.alloc (.cells #[.int .i64 k0, .string a, .string b, .string c, .int .i64 r] 32)).alloc (.cells #[.map none, .map none] 51)).alloc (.cells #[.pointer none, .pointer (some ⟨w.heap.size + 1, 0, none⟩)] 25) = W := ⟨_, rfl⟩
  have HI0 : Hid (NInv w W w.heap.size (w.heap.size + 1) (w.heap.size + 1 + 1) a b c r) := by
    rw [← hW]
    refine ⟨(((Below.refl _ w).alloc (Nat.le_refl _) _).alloc (by simp) _).alloc (by simp; omega) _, ⟨k0, ?_⟩, ?_, ?_, Nat.le_refl _, by omega, by omega⟩
    · exact ((Blk.new w #[.int .i64 k0, .string a, .string b, .string c, .int .i64 r] 32).alloc _).alloc _
    · have := (Blk.new (w.alloc (.cells #[.int .i64 k0, .string a, .string b, .string c, .int .i64 r] 32)) #[.map none, .map none] 51).alloc (.cells #[.pointer none, .pointer (some ⟨w.heap.size + 1, 0, none⟩)] 25)
      rw [World.size_alloc] at this
      exact this
    · have := Blk.new ((w.alloc (.cells #[.int .i64 k0, .string a, .string b, .string c, .int .i64 r] 32)).alloc (.cells #[.map none, .map none] 51)) #[.pointer none, .pointer (some ⟨w.heap.size + 1, 0, none⟩)] 25
      rw [World.size_alloc, World.size_alloc] at this
      exact this
  have HW : Hid (((w.alloc (.cells #[.int .i64 k0, .string a, .string b, .string c, .int .i64 r] 32)).alloc (.cells #[.map none, .map none] 51)).alloc (.cells #[.pointer none, .pointer (some ⟨w.heap.size + 1, 0, none⟩)] 25) = W) := hW
  clear hW
  go_enter Try.func7, Try.ntmps7
  go_wp2_with fail
  rw [HW.out]
  obtain ⟨gb, hgb⟩ : ∃ gb, w.heap.size = gb := ⟨_, rfl⟩
  have HGB : Hid (w.heap.size = gb) := hgb
  obtain ⟨z, hz⟩ : ∃ z, w.heap.size + 1 = z := ⟨_, rfl⟩
  obtain ⟨sl, hsl⟩ : ∃ sl, w.heap.size + 1 + 1 = sl := ⟨_, rfl⟩
  have HI : Hid (NInv w W gb z sl a b c r) := by
    have := HI0.out
    rw [hsl, hz] at this
    rwa [hgb] at this
  rw [hsl]
  try rw [hz]
  rw [hgb]
  clear hgb hz hsl HI0 hbd hbs HW
  go_loopw [10] (fun u wr => ∃ i : Nat, u = .int .i64 (i : Int) ∧ Hid (i ≤ 2 ∧ NInv w wr gb z sl a b c r)) (fun u _ => 2 - (intOf u).toNat)
  case atStart => exact ⟨0, rfl, ⟨by omega, HI.out⟩⟩
  case round =>
    obtain ⟨i, rfl, HB⟩ := hrel
    by_cases hi : i = 2
    · subst hi
      go_wp2_with fail
      refine (lives_is wr).mono ?_
      rintro e w3 ⟨rfl, h3⟩
      have H3 : Hid (Below w.heap.size w w3) := HB.out.2.1.trans (h3.mono HB.out.2.1.size)
      clear h3
      go_wp2
      go_ret
      exact ⟨rfl, H3.out⟩
    · have q1 : (i : Int) < (2 : Int) := by have := HB.out.1; omega
      have HI2 : Hid (i < 2) := by show _ < _; have := HB.out.1; omega
      have kv : wr.cell? ⟨sl, i, none⟩ = some (who z i) := by
        refine HB.out.2.2.2.2.1.cell ?_
        have := HI2.out
        rcases (by omega : i = 0 ∨ i = 1) with rfl | rfl <;> rfl
      have HUN : ∀ V, NInv w V gb z sl a b c r → Unmade V (who z i) := fun V hV => hV.un i
      have HUN : Hid (∀ V, NInv w V gb z sl a b c r → Unmade V (who z i)) := HUN
      obtain ⟨v, hv0⟩ : ∃ v, who z i = v := ⟨_, rfl⟩
      rw [hv0] at kv HUN
      clear hi hv0
      go_wp2_with fail
      go_loopw [14] (fun u wr => ∃ k : Nat, u = .int .i64 (k : Int) ∧ Hid (k ≤ 7 ∧ NInv w wr gb z sl a b c r)) (fun u _ => 7 - (intOf u).toNat)
      case atStart => exact ⟨0, rfl, ⟨by omega, HB.out.2⟩⟩
      case round =>
        obtain ⟨k, rfl, HK⟩ := hrel
        clear kv
        by_cases hk : k = 7
        · subst hk
          obtain ⟨K, hK⟩ := HK.out.2.2.1
          have HC : Hid (wr.cell? ⟨gb, 1, none⟩ = some (.string a) ∧ wr.cell? ⟨gb, 3, none⟩ = some (.string c) ∧ gb < wr.heap.size) := ⟨hK.cell rfl, hK.cell rfl, hK.lt⟩
          clear hK
          go_wp2_with fail
          refine nobody_region (HUN.out _ HK.out.2) HC ?_
          intro V hV
          have HV : Hid (NInv w V gb z sl a b c r) := HK.out.2.below hV
          clear hV HC
          go_wp2
          exact ⟨⟨i + 1, by simp, ⟨HI2.out, HV.out⟩⟩, by have := HI2.out; simp [intOf]; omega⟩
        · have q2 : (k : Int) < (7 : Int) := by have := HK.out.1; omega
          have HKL : Hid (k < 7) := by show _ < _; have := HK.out.1; omega
          obtain ⟨K, hK⟩ := HK.out.2.2.1
          have c0 : wr.cell? ⟨gb, 0, none⟩ = some (.int .i64 K) := hK.cell rfl
          have f0 : wr.frozen? ⟨gb, 0, none⟩ = false := hK.free 0
          have HS : Hid (NInv w (wr.setCell ⟨gb, 0, none⟩ (.int .i64 (k : Int))) gb z sl a b c r ∧ Blk (wr.setCell ⟨gb, 0, none⟩ (.int .i64 (k : Int))) gb 32 [.int .i64 (k : Int), .string a, .string b, .string c, .int .i64 r]) := HK.out.2.set (k : Int)
          clear hk hK
          go_wp2_with (first
            | (with_reducible change wpList _ _ _ ({ dst := some 20, op := Op.load 32 _, type := _, pos := _, after := _, guard := _ } :: _) _ _
               refine wpList_load_mid rfl 32 (.tmp 1) rfl gb 0 rfl [.int .i64 (k : Int), .string a, .string b, .string c, .int .i64 r] _ (HS.out.2.range 0 5) Try.underlying32 rfl size32 ?_)
            | fail)
          refine (un_do (HUN.out _ HS.out.1) (k : Int) (by have := HKL.out; omega) a b c r).mono ?_
          rintro e w4 ⟨rfl, h4⟩
          have H4 : Hid (NInv w w4 gb z sl a b c r) := HS.out.1.below h4
          clear h4 c0 f0
          go_wp2
          exact ⟨⟨k + 1, by simp, ⟨HKL.out, H4.out⟩⟩, by have := HKL.out; simp [intOf]; omega⟩
#print axioms nobody_law
end Go.Proofs.Ytfickhhfhdhcbaa.Oct
