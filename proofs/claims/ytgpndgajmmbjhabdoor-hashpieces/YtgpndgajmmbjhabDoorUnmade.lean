/-
  Layer 2 (hash): a digest that no call made takes nothing.
-/
import Derived.Test.YtgpndgajmmbjhabDoorLives
import Derived.Test.YtgpndgajmmbjhabDoorEq
namespace Go.Proofs.YtgpndgajmmbjhabDoor.Oct
open Go.RowKit Sha

/-- a digest that no call made -/
def Un (w : World) (p : Option Addr) : Prop := p = none ∨ ∃ d, p = some ⟨d, 0, none⟩ ∧ d < w.heap.size ∧ w.cell? ⟨d, 0, none⟩ = some (.bool false)
theorem Un.below {w w' : World} {p : Option Addr} (h : Un w p) (hb : Below w.heap.size w w') : Un w' p := by
  rcases h with rfl | ⟨d, rfl, h1, h2⟩
  · exact .inl rfl
  · exact .inr ⟨d, rfl, Nat.lt_of_lt_of_le h1 hb.size, (hb.cell (p := ⟨d, 0, none⟩) h1).trans h2⟩
theorem isMade_un (w : World) (p : Option Addr) (h : Un w p) : Calls Tryd.prog 22 #[.pointer p] w fun e w' => e = .returned (.bool false) ∧ w = w' := by
  rcases h with rfl | ⟨d, rfl, h1, h2⟩
  · exact isMade_nil w
  · exact isMade_is d false w h2
theorem write_un (w : World) (p : Option Addr) (v : Value) (h : Un w p) : Calls Tryd.prog 12 #[.pointer p, v] w fun e w' => e = .returned (.int .i64 1) ∧ w = w' := by
  have HU : Hid (Un w p) := h
  clear h
  go_enter Tryd.func12, Tryd.ntmps12
  go_wp2_with (go_at_call 22; refine (isMade_un _ p HU.out).mono ?_; rintro e w1 ⟨rfl, rfl⟩)
  go_ret
  exact ⟨rfl, rfl⟩
theorem clone_un (w : World) (p : Option Addr) (h : Un w p) : Calls Tryd.prog 13 #[.pointer p] w fun e w' => e = .returned (.pointer none) ∧ w = w' := by
  have HU : Hid (Un w p) := h
  clear h
  go_enter Tryd.func13, Tryd.ntmps13
  go_wp2_with (go_at_call 22; refine (isMade_un _ p HU.out).mono ?_; rintro e w1 ⟨rfl, rfl⟩)
  go_ret
  exact ⟨rfl, rfl⟩

theorem built25 : Tryd.prog.built 25 [] = some (zb 32).toArray := by kernel_rfl
theorem zb_one (n : Nat) : ∀ v ∈ zb n, v.oneCell' = true := by intro v hv; rw [List.eq_of_mem_replicate hv]; rfl
theorem sum_un (w : World) (p : Option Addr) (h : Un w p) : Calls Tryd.prog 14 #[.pointer p] w fun e w' => e = .returned (.agg (zb 32).toArray) ∧ Below w.heap.size w w' := by
  have HU : Hid (Un w p) := h
  have HZ : Hid ((zb 32).length = 32) := zb_length 32
  have HO : Hid (∀ v ∈ zb 32, v.oneCell' = true) := zb_one 32
  have HBT : Hid (Tryd.prog.built 25 [] = some (zb 32).toArray) := built25
  clear h
  go_enter Tryd.func14, Tryd.ntmps14
  go_wp2_with fail
  generalize hW1 : w.alloc _ = W1
  obtain ⟨HR1, HW1⟩ : Hid (Blk W1 w.heap.size 25 (zb 32)) ∧ Hid (Below w.heap.size w W1) := by
    subst hW1
    exact ⟨Blk.new w _ 25, (Below.refl _ w).alloc (Nat.le_refl _) _⟩
  clear hW1
  generalize hE : zb 32 = Z at *
  have HE : Hid (zb 32 = Z) := hE
  clear hE
  go_wp2_with (first
    | (go_at_call 22; refine (isMade_un _ p (HU.out.below HW1.out)).mono ?_; rintro e w1 ⟨rfl, rfl⟩)
    | (refine wpList_built rfl 25 _ rfl Z.toArray (by simp; exact HBT.out) ?_)
    | (refine wpList_store_blk rfl 25 (.tmp 2) (.tmp 7) rfl w.heap.size 0 25 Z Z rfl rfl HR1.out (by rw [HZ.out]; omega) (by rw [size25, HZ.out]) HO.out ?_; intro w6 hB6 hG6))
  have HR : Hid (w6.heap[w.heap.size]? = some (.cells Z.toArray 25 (0, 0))) := by
    have e := hB6.out
    rw [List.drop_eq_nil_of_le (by omega), List.append_nil] at e
    exact e
  refine bodyPost_ret (v := .agg Z.toArray) (results_cell_row rfl _ _ w.heap.size 25 _ (0, 0) _ rfl HR.out Tryd.underlying25 rfl (by rw [size25, List.size_toArray, HZ.out])) rfl ⟨by rw [HE.out], ?_⟩
  exact HW1.out.grown hG6.out HW1.out.size (by intro k hk; have := Option.some.inj hk; omega)

theorem built49z : ∃ Z : List Value, Tryd.prog.built 49 [] = some Z.toArray ∧ Z[0]? = some (.bool false) :=
  ⟨.bool false :: (List.replicate 8 (.int .u32 0) ++ (List.replicate 64 (.int .u8 0) ++ [.int .u64 0])), by kernel_rfl, rfl⟩
/-- what the loop keeps -/
def NInv (w wr : World) : Prop := Below w.heap.size w wr ∧ w.heap.size + 1 < wr.heap.size ∧ wr.cell? ⟨w.heap.size, 0, none⟩ = some (.bool false) ∧ wr.cell? ⟨w.heap.size + 1, 0, none⟩ = some (.pointer none) ∧ wr.cell? ⟨w.heap.size + 1, 1, none⟩ = some (.pointer (some ⟨w.heap.size, 0, none⟩))
theorem NInv.below {w wr wr' : World} (h : NInv w wr) (hb : Below wr.heap.size wr wr') : NInv w wr' := by
  obtain ⟨h1, h2, h3, h4, h5⟩ := h
  refine ⟨h1.trans (hb.mono h1.size), Nat.lt_of_lt_of_le h2 hb.size, ?_, ?_, ?_⟩
  · exact (hb.cell (p := ⟨w.heap.size, 0, none⟩) (show w.heap.size < _ by omega)).trans h3
  · exact (hb.cell (p := ⟨w.heap.size + 1, 0, none⟩) h2).trans h4
  · exact (hb.cell (p := ⟨w.heap.size + 1, 1, none⟩) h2).trans h5

set_option maxHeartbeats 400000 in
set_option maxRecDepth 100000 in
theorem nobody_is (v : Value) (w : World) (hk : KT w) (hs : ST w) : Calls Tryd.prog 7 #[v] w fun e w' => e = .returned (.bool true) ∧ Below w.heap.size w w' := by
  have HK : Hid (KT w) := hk
  have HS : Hid (ST w) := hs
  obtain ⟨Z, hz, hZ0⟩ := built49z
  have HBT : Hid (Tryd.prog.built 49 [] = some Z.toArray) := hz
  have HZ0 : Hid (Z[0]? = some (.bool false)) := hZ0
  have hq : ∀ W, (Op.equalIn 10000 25 (.agg (zb 32).toArray) (.agg #[.int .u8 0, .int .u8 0, .int .u8 0, .int .u8 0, .int .u8 0, .int .u8 0, .int .u8 0, .int .u8 0, .int .u8 0, .int .u8 0, .int .u8 0, .int .u8 0, .int .u8 0, .int .u8 0, .int .u8 0, .int .u8 0, .int .u8 0, .int .u8 0, .int .u8 0, .int .u8 0, .int .u8 0, .int .u8 0, .int .u8 0, .int .u8 0, .int .u8 0, .int .u8 0, .int .u8 0, .int .u8 0, .int .u8 0, .int .u8 0, .int .u8 0, .int .u8 0])).run Tryd.prog W = .ok true W := eq_same (List.replicate 32 0) (by simp)
  generalize hE : zb 32 = Y at *
  have HE : Hid (zb 32 = Y) := hE
  clear hE
  clear hk hs hz hZ0
  go_enter Tryd.func7, Tryd.ntmps7
  go_wp2_with (first
    | (refine wpList_built rfl 49 _ rfl Z.toArray (by simp; exact HBT.out) ?_)
    | (refine Go.Great.wpList_boxTo rfl 49 (.tmp 5) rfl _ rfl w.heap.size rfl Z.toArray rfl ?_))
  go_loopw [9] (fun i wr => ∃ t : Nat, i = .int .i64 t ∧ t ≤ 2 ∧ Hid (NInv w wr)) (fun i _ => 2 - (intOf i).toNat)
  case atStart =>
    refine ⟨0, rfl, by omega, ?_, ?_, ?_, ?_, ?_⟩
    · exact ((Below.refl _ w).alloc (Nat.le_refl _) _).alloc (by simp) _
    · simp
    · have e := (Blk.new w Z.toArray 49).alloc (.cells #[.pointer none, .pointer (some ⟨w.heap.size, 0, none⟩)] 29)
      exact e.cell (by simpa using HZ0.out)
    · have e := Blk.new (w.alloc (.cells Z.toArray 49)) #[.pointer none, .pointer (some ⟨w.heap.size, 0, none⟩)] 29
      rw [show (w.alloc (.cells Z.toArray 49)).heap.size = w.heap.size + 1 by simp] at e
      exact e.cell rfl
    · have e := Blk.new (w.alloc (.cells Z.toArray 49)) #[.pointer none, .pointer (some ⟨w.heap.size, 0, none⟩)] 29
      rw [show (w.alloc (.cells Z.toArray 49)).heap.size = w.heap.size + 1 by simp] at e
      exact e.cell rfl
  case round =>
    obtain ⟨t, rfl, ht, hr⟩ := hrel
    by_cases hlt : t = 2
    · have q1 : (2 : Int) ≤ (t : Int) := by omega
      go_wp2_with (go_at_call 8; refine (lives_is wr (HK.out.below hr.out.1) (HS.out.below hr.out.1)).mono ?_; rintro e w2 ⟨rfl, hw2⟩)
      go_ret
      exact ⟨rfl, hr.out.1.trans (hw2.mono hr.out.1.size)⟩
    · have q1 : (t : Int) < 2 := by omega
      have HT : Hid (t < 2) := by show t < 2; omega
      obtain ⟨p, hc, hu⟩ : ∃ p, wr.cell? ⟨w.heap.size + 1, t, none⟩ = some (.pointer p) ∧ Hid (Un wr p) := by
        obtain ⟨h1, h2, h3, h4, h5⟩ := hr.out
        have : t = 0 ∨ t = 1 := by omega
        rcases this with rfl | rfl
        · exact ⟨_, h4, .inl rfl⟩
        · exact ⟨_, h5, .inr ⟨_, rfl, by omega, h3⟩⟩
      clear hlt
      go_wp2_with (first
        | (go_at_call 12; refine (write_un _ p _ hu.out).mono ?_; rintro e w2 ⟨rfl, rfl⟩)
        | (go_at_call 14; refine (sum_un _ p hu.out).mono ?_; rintro e w3 ⟨rfl, hw3⟩; have HW3 : Hid (Below wr.heap.size wr w3) := hw3; clear hw3; rw [HE.out])
        | (go_at_call 13; refine (clone_un _ p (hu.out.below HW3.out)).mono ?_; rintro e w4 ⟨rfl, rfl⟩))
      refine ⟨⟨t + 1, by simp, HT.out, hr.out.below HW3.out⟩, ?_⟩
      have := HT.out
      show 2 - (intOf (.int .i64 ((t : Int) + 1))).toNat < 2 - (intOf (.int .i64 (t : Int))).toNat
      simp only [intOf]
      omega

#print axioms nobody_is
end Go.Proofs.YtgpndgajmmbjhabDoor.Oct
