/-
  Layer 7 (tree): a map that no call made; the law TreeNobody.
-/
import Derived.Test.YtnagknlfboadkaaLives
namespace Go.Proofs.Ytnagknlfboadkaa.Oct
open Go.RowKit Go.Shelf

/-- a map that no call made -/
def Un (w : World) (p : Option Addr) : Prop := p = none ∨ ∃ m, p = some ⟨m, 0, none⟩ ∧ w.cell? ⟨m, 2, none⟩ = some (.bool false)
theorem Un.below {w w' : World} {p : Option Addr} (h : Un w p) (hb : Below w.heap.size w w') : Un w' p := by
  rcases h with h | ⟨m, rfl, hc⟩
  · exact .inl h
  · exact .inr ⟨m, rfl, (hb.cell (p := ⟨m, 2, none⟩) (World.block_lt_of_cell? w _ hc)).trans hc⟩
theorem made_un (w : World) (p : Option Addr) (h : Un w p) : Calls Try.prog 22 #[.pointer p] w fun e w' => e = .returned (.bool false) ∧ w = w' := by
  rcases h with rfl | ⟨m, rfl, hc⟩
  · exact made_nil w
  · exact made_is w m false hc
theorem get_un (w : World) (p : Option Addr) (key : ByteArray) (h : Un w p) : Calls Try.prog 21 #[.pointer p, .string key] w fun e w' => e = .returned (.tuple #[.string ⟨#[]⟩, .bool false]) ∧ w = w' := by
  have H : Hid (Un w p) := h
  clear h
  go_enter Try.func21, Try.ntmps21
  go_wp2_with (go_at_call 22; refine (made_un w p H.out).mono ?_; rintro e w2 ⟨rfl, rfl⟩)
  go_ret2
  exact ⟨rfl, rfl⟩
theorem put_un (w : World) (p : Option Addr) (key v : ByteArray) (h : Un w p) : Calls Try.prog 19 #[.pointer p, .string key, .string v] w fun e w' => e = .returned (.bool false) ∧ w = w' := by
  have H : Hid (Un w p) := h
  clear h
  go_enter Try.func19, Try.ntmps19
  go_wp2_with (go_at_call 22; refine (made_un w p H.out).mono ?_; rintro e w2 ⟨rfl, rfl⟩)
  go_ret
  exact ⟨rfl, rfl⟩
theorem del_un (w : World) (p : Option Addr) (key : ByteArray) (h : Un w p) : Calls Try.prog 18 #[.pointer p, .string key] w fun e w' => e = .returned (.bool false) ∧ w = w' := by
  have H : Hid (Un w p) := h
  clear h
  go_enter Try.func18, Try.ntmps18
  go_wp2_with (go_at_call 22; refine (made_un w p H.out).mono ?_; rintro e w2 ⟨rfl, rfl⟩)
  go_ret
  exact ⟨rfl, rfl⟩
theorem len_un (w : World) (p : Option Addr) (h : Un w p) : Calls Try.prog 15 #[.pointer p] w fun e w' => e = .returned (.int .i64 0) ∧ w = w' := by
  have H : Hid (Un w p) := h
  clear h
  go_enter Try.func15, Try.ntmps15
  go_wp2_with (go_at_call 22; refine (made_un w p H.out).mono ?_; rintro e w2 ⟨rfl, rfl⟩)
  go_ret
  exact ⟨rfl, rfl⟩
theorem depth_un (w : World) (p : Option Addr) (h : Un w p) : Calls Try.prog 20 #[.pointer p] w fun e w' => e = .returned (.int .i64 0) ∧ w = w' := by
  have H : Hid (Un w p) := h
  clear h
  go_enter Try.func20, Try.ntmps20
  go_wp2_with (go_at_call 22; refine (made_un w p H.out).mono ?_; rintro e w2 ⟨rfl, rfl⟩)
  go_ret
  exact ⟨rfl, rfl⟩
theorem clone_un (w : World) (p : Option Addr) (h : Un w p) : Calls Try.prog 11 #[.pointer p] w fun e w' => e = .returned (.pointer none) ∧ w = w' := by
  have H : Hid (Un w p) := h
  clear h
  go_enter Try.func11, Try.ntmps11
  go_wp2_with (go_at_call 22; refine (made_un w p H.out).mono ?_; rintro e w2 ⟨rfl, rfl⟩)
  go_ret
  exact ⟨rfl, rfl⟩
theorem scan_un (w : World) (p : Option Addr) (key til : ByteArray) (h : Un w p) : Calls Try.prog 17 #[.pointer p, .string key, .string til] w fun e w' => e = .returned (.func (.func 27) #[] #[]) ∧ Below w.heap.size w w' := by
  rcases h with rfl | ⟨m, rfl, hc⟩
  · exact scan_nil w key til
  · exact scan_no w m key til hc
theorem told_un (w : World) (p : Option Addr) (key til : ByteArray) (h : Un w p) : Calls Try.prog 13 #[.pointer p, .string key, .string til] w fun e w' => e = .returned (.slice none 0 0) ∧ Hid (Below w.heap.size w w') :=
  told_none w p key til (fun W hW => scan_un W p key til (h.below hW))
#print axioms told_un

set_option maxRecDepth 100000 in
theorem nobody_law (key v : ByteArray) (w : World) : Calls Try.prog 7 #[.string key, .string v] w fun e w' => e = .returned (.bool true) ∧ Below w.heap.size w w' := by
  have nn := not_nil27
  go_enter Try.func7, Try.ntmps7
  go_wp2_with fail
  obtain ⟨W2, hW2⟩ : ∃ W2, W2 = (w.alloc (.cells #[.pointer none, .int .i64 0, .bool false] 48)).alloc (.cells #[.pointer none, .pointer (some ⟨w.heap.size, 0, none⟩)] 25) := ⟨_, rfl⟩
  have HB2 : Hid (Below w.heap.size w W2) := by rw [hW2]; exact ((Below.refl _ w).alloc (Nat.le_refl _) _).alloc (by simp) _
  have HU2 : Hid (W2.cell? ⟨w.heap.size, 2, none⟩ = some (.bool false)) := by
    have e := (Blk.new w #[.pointer none, .int .i64 0, .bool false] 48).alloc (.cells #[.pointer none, .pointer (some ⟨w.heap.size, 0, none⟩)] 25)
    rw [← hW2] at e
    exact e.cell (i := 2) rfl
  have HS2 : Hid (Blk W2 (w.heap.size + 1) 25 [.pointer none, .pointer (some ⟨w.heap.size, 0, none⟩)]) := by
    have e := Blk.new (w.alloc (.cells #[.pointer none, .int .i64 0, .bool false] 48)) #[.pointer none, .pointer (some ⟨w.heap.size, 0, none⟩)] 25
    rw [World.size_alloc, ← hW2] at e
    exact e
  have HW2 : Hid (W2 = (w.alloc (.cells #[.pointer none, .int .i64 0, .bool false] 48)).alloc (.cells #[.pointer none, .pointer (some ⟨w.heap.size, 0, none⟩)] 25)) := hW2
  clear hW2
  go_loopw [13] (fun u wr => ∃ t : Nat, u = .int .i64 (t : Int) ∧ Hid (t ≤ 2) ∧ Hid (Below W2.heap.size W2 wr)) (fun u _ => 2 - (intOf u).toNat)
  case atStart => exact ⟨0, rfl, Nat.zero_le _, by rw [HW2.out]; exact Below.refl _ _⟩
  case round =>
    obtain ⟨t, rfl, HT, HB⟩ := hrel
    have HF : Hid (Below w.heap.size w wr) := HB2.out.trans (HB.out.mono HB2.out.size)
    by_cases ht : t < 2
    · obtain ⟨p, HP, HU⟩ : ∃ p, Hid (wr.cell? ⟨w.heap.size + 1, t, none⟩ = some (.pointer p)) ∧ Hid (Un wr p) := by
        have hs := HS2.out.below HB.out HS2.out.lt
        match t, ht with
        | 0, _ => exact ⟨none, hs.cell (i := 0) rfl, .inl rfl⟩
        | 1, _ => exact ⟨_, hs.cell (i := 1) rfl, .inr ⟨_, rfl, (HB.out.cell (p := ⟨w.heap.size, 2, none⟩) (World.block_lt_of_cell? W2 _ HU2.out)).trans HU2.out⟩⟩
      have hc := HP.out
      have q1 : (t : Int) < 2 := by omega
      have HTT : Hid (t < 2) := ht
      clear ht
      go_wp2_with (first
        | (go_at_call 21; refine (get_un wr p key HU.out).mono ?_; rintro e w3 ⟨rfl, rfl⟩)
        | (go_at_call 19; refine (put_un wr p key v HU.out).mono ?_; rintro e w3 ⟨rfl, rfl⟩)
        | (go_at_call 18; refine (del_un wr p key HU.out).mono ?_; rintro e w3 ⟨rfl, rfl⟩)
        | (go_at_call 15; refine (len_un wr p HU.out).mono ?_; rintro e w3 ⟨rfl, rfl⟩)
        | (go_at_call 20; refine (depth_un wr p HU.out).mono ?_; rintro e w3 ⟨rfl, rfl⟩)
        | (go_at_call 11; refine (clone_un wr p HU.out).mono ?_; rintro e w3 ⟨rfl, rfl⟩)
        | (go_at_call 17; refine (scan_un wr p _ _ HU.out).mono ?_; rintro e w4 ⟨rfl, hB4⟩; have HB4 : Hid (Below wr.heap.size wr w4) := hB4; clear hB4)
        | (go_at_call 13; refine (told_un w4 p _ _ (HU.out.below HB4.out)).mono ?_; rintro e w5 ⟨rfl, HB5⟩))
      go_roundw
      case rel =>
        refine ⟨t + 1, by simp, HTT.out, ?_⟩
        have k1 := HB.out.trans (HB4.out.mono HB.out.size)
        exact k1.trans (HB5.out.mono k1.size)
      case measure => have := HTT.out; simp [intOf]; omega
    · have q1 : ¬ (t : Int) < 2 := by omega
      go_wp2_with (go_at_call 9; refine (lives_is wr).mono ?_; rintro e w3 ⟨rfl, HB3⟩)
      go_ret
      exact ⟨rfl, HF.out.trans (HB3.out.mono HF.out.size)⟩
#print axioms nobody_law
end Go.Proofs.Ytnagknlfboadkaa.Oct
