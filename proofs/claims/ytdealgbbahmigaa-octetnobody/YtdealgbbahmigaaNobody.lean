/-
  'OctetNobody': a reader that no call made reads nothing: the law's walk.
-/
import Derived.Test.YtdealgbbahmigaaRead
namespace Go.Proofs.Ytdealgbbahmigaa.Oct
open Go.RowKit

set_option maxHeartbeats 1600000 in
theorem nobody (most : Int) (w : World) : Calls Try.prog 7 #[.int .i64 most] w fun e w' => e = .returned (.bool true) ∧ Below w.heap.size w w' := by
  go_enter Try.func7, Try.ntmps7
  go_wp2_with fail
  go_loop [15] (fun i => ∃ k : Nat, k ≤ 2 ∧ i = .int .i64 k) (fun i => 2 - (intOf i).toNat)
  case atStart => exact ⟨0, by omega, rfl⟩
  case round =>
    obtain ⟨k, hk, rfl⟩ := hrel
    have hbel : Below w.heap.size w ((w.alloc (.cells #[.slice none 0 0, .int .i64 0, .bool false] 53)).alloc (.cells #[.pointer none, .pointer (some ⟨w.heap.size, 0, none⟩)] 30)) :=
      ((Below.refl _ _).alloc (Nat.le_refl _) _).alloc (by simp) _
    have HB : Hid (Below w.heap.size w ((w.alloc (.cells #[.slice none 0 0, .int .i64 0, .bool false] 53)).alloc (.cells #[.pointer none, .pointer (some ⟨w.heap.size, 0, none⟩)] 30))) := hbel
    clear hbel
    rcases (show k = 0 ∨ k = 1 ∨ k = 2 by omega) with rfl | rfl | rfl
    · have H : Hid (NoRd ((w.alloc (.cells #[.slice none 0 0, .int .i64 0, .bool false] 53)).alloc (.cells #[.pointer none, .pointer (some ⟨w.heap.size, 0, none⟩)] 30)) none) := .inl rfl
      go_wp2_with (first | (go_at_call 15; refine (uint_no _ _ H.out).mono ?_; rintro e w' ⟨rfl, rfl⟩) | (go_at_call 17; refine (text_no _ _ _ H.out).mono ?_; rintro e w' ⟨rfl, rfl⟩) | (go_at_call 19; refine (byte_no _ _ H.out).mono ?_; rintro e w' ⟨rfl, rfl⟩) | (go_at_call 20; refine (end_no _ _ H.out).mono ?_; rintro e w' ⟨rfl, rfl⟩) | (go_at_call 21; refine (left_no _ _ H.out).mono ?_; rintro e w' ⟨rfl, rfl⟩))
      go_round
      case rel => exact ⟨1, by omega, by go_num⟩
      case measure => simp [intOf]
    · have H : Hid (NoRd ((w.alloc (.cells #[.slice none 0 0, .int .i64 0, .bool false] 53)).alloc (.cells #[.pointer none, .pointer (some ⟨w.heap.size, 0, none⟩)] 30)) (some ⟨w.heap.size, 0, none⟩)) := .inr ⟨_, rfl, by simp⟩
      go_wp2_with (first | (go_at_call 15; refine (uint_no _ _ H.out).mono ?_; rintro e w' ⟨rfl, rfl⟩) | (go_at_call 17; refine (text_no _ _ _ H.out).mono ?_; rintro e w' ⟨rfl, rfl⟩) | (go_at_call 19; refine (byte_no _ _ H.out).mono ?_; rintro e w' ⟨rfl, rfl⟩) | (go_at_call 20; refine (end_no _ _ H.out).mono ?_; rintro e w' ⟨rfl, rfl⟩) | (go_at_call 21; refine (left_no _ _ H.out).mono ?_; rintro e w' ⟨rfl, rfl⟩))
      go_round
      case rel => exact ⟨2, by omega, by go_num⟩
      case measure => simp [intOf]
    · go_wp2_with fail
      refine (over_is none 0 0 [] _ (In.nil _)).mono ?_
      rintro e w1 ⟨r, g, rfl, hrd, hb1⟩
      have H : Hid (RdAt _ w1 r g 0 [] 0) := hrd
      have hb := HB.out.trans (hb1.mono (by simp; omega))
      clear hrd hb1
      go_wp2_with (first | (go_at_call 20; refine (end_is H.out).mono ?_; rintro e w' ⟨rfl, n, rfl⟩; simp only [List.length_nil, Nat.lt_irrefl, if_false]))
      refine (lives _).mono ?_
      rintro e w3 ⟨rfl, hb3⟩
      go_wp2
      go_ret
      exact ⟨rfl, (below_drewN hb _).trans (hb3.mono hb.size)⟩
#print axioms nobody

end Go.Proofs.Ytdealgbbahmigaa.Oct
