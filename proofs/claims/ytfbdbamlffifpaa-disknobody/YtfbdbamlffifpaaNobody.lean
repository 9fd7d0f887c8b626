/-
  Layer 5 (disk): a disk that no call made has nothing and does nothing.
-/
import Derived.Test.YtfbdbamlffifpaaLives
namespace Go.Proofs.Ytfbdbamlffifpaa.Oct
open Go.RowKit Go.Maps Go.Lib

/-- what the loop keeps: a zero disk, and the two pointers -/
def NInv (w wr : World) : Prop := Below w.heap.size w wr ∧ w.heap.size + 1 < wr.heap.size ∧ wr.cell? ⟨w.heap.size, 0, none⟩ = some (.int .i64 0) ∧ wr.cell? ⟨w.heap.size + 1, 0, none⟩ = some (.pointer none) ∧ wr.cell? ⟨w.heap.size + 1, 1, none⟩ = some (.pointer (some ⟨w.heap.size, 0, none⟩))
theorem NInv.below {w wr w' : World} (h : NInv w wr) (hb : Below wr.heap.size wr w') : NInv w w' := by
  obtain ⟨h1, h2, h3, h4, h5⟩ := h
  exact ⟨h1.trans (hb.mono h1.size), Nat.lt_of_lt_of_le h2 hb.size, (hb.cell (p := ⟨w.heap.size, 0, none⟩) (by show w.heap.size < _; omega)).trans h3, (hb.cell (p := ⟨w.heap.size + 1, 0, none⟩) h2).trans h4, (hb.cell (p := ⟨w.heap.size + 1, 1, none⟩) h2).trans h5⟩

set_option maxHeartbeats 2000000 in
set_option maxRecDepth 100000 in
theorem nobody_is (n : Int) (v : Value) (w : World) : Calls Try.prog 6 #[.int .i64 n, v] w fun e w' => e = .returned (.bool true) ∧ Below w.heap.size w w' := by
  have hz := zero61
  obtain ⟨Z, hZ⟩ : ∃ Z : Array Value, Z = #[.int .i64 0, .map none, .slice none 0 0, .map none, .int .i64 0, .bool false, .int .i64 0] := ⟨_, rfl⟩
  have HBT : Hid (Try.prog.built 61 [] = some Z) := by rw [hZ]; show _ = _; kernel_rfl
  have HZ : Hid (Z.toList[0]? = some (.int .i64 0)) := by rw [hZ]; rfl
  clear hZ hz
  go_enter Try.func6, Try.ntmps6
  go_wp2_with (with_reducible change wpList _ _ _ ({ dst := some 9, op := Op.build 61 _, type := _, pos := _, after := _, guard := _ } :: _) _ _; refine wpList_built rfl 61 _ rfl Z (by simp; exact HBT.out) ?_)
  go_loopw [13] (fun i wr => ∃ t : Nat, i = .int .i64 t ∧ t ≤ 2 ∧ Hid (NInv w wr)) (fun i _ => 2 - (intOf i).toNat)
  case atStart =>
    refine ⟨0, rfl, by omega, ?_, ?_, ?_, ?_, ?_⟩
    · exact ((Below.refl _ w).alloc (Nat.le_refl _) _).alloc (by simp) _
    · simp
    · have e := (Blk.new w Z 61).alloc (.cells #[.pointer none, .pointer (some ⟨w.heap.size, 0, none⟩)] 23)
      exact e.cell HZ.out
    · have e := Blk.new (w.alloc (.cells Z 61)) #[.pointer none, .pointer (some ⟨w.heap.size, 0, none⟩)] 23
      rw [show (w.alloc (.cells Z 61)).heap.size = w.heap.size + 1 by simp] at e
      exact e.cell rfl
    · have e := Blk.new (w.alloc (.cells Z 61)) #[.pointer none, .pointer (some ⟨w.heap.size, 0, none⟩)] 23
      rw [show (w.alloc (.cells Z 61)).heap.size = w.heap.size + 1 by simp] at e
      exact e.cell rfl
  case round =>
    obtain ⟨t, rfl, ht, hr⟩ := hrel
    by_cases hlt : t = 2
    · have q1 : (2 : Int) ≤ (t : Int) := by omega
      go_wp2_with (go_at_call 13; refine (lives_is wr).mono ?_; rintro e w2 ⟨rfl, hw2⟩)
      go_ret
      exact ⟨rfl, hr.out.1.trans (hw2.mono hr.out.1.size)⟩
    · have q1 : (t : Int) < 2 := by omega
      have HT : Hid (t < 2) := by show t < 2; omega
      obtain ⟨p, hc, hu⟩ : ∃ p, wr.cell? ⟨w.heap.size + 1, t, none⟩ = some (.pointer p) ∧ Hid (Un wr p) := by
        obtain ⟨h1, h2, h3, h4, h5⟩ := hr.out
        have : t = 0 ∨ t = 1 := by omega
        rcases this with rfl | rfl
        · exact ⟨_, h4, .inl rfl⟩
        · exact ⟨_, h5, .inr ⟨_, rfl, by omega, h3⟩⟩
      have o1 : Calls Try.prog 24 #[.int .u8 1] wr fun e w' => e = .returned (.slice (some ⟨wr.heap.size, 0, none⟩) 256 256) ∧ Hid (Below wr.heap.size wr w') := (ones_is 1 wr).mono fun e w' ⟨he, _, hB⟩ => ⟨he, hB⟩
      clear hlt
      go_wp2_with (first
        | (go_at_call 21; refine (read_un _ p _ hu.out).mono ?_; rintro e w2 ⟨rfl, rfl⟩)
        | (go_at_call 24; refine o1.mono ?_; rintro e w3 ⟨rfl, HW3⟩; have hu3 : Hid (Un w3 p) := hu.out.below HW3.out)
        | (go_at_call 18; refine (write_un _ p _ _ hu3.out).mono ?_; rintro e w4 ⟨rfl, rfl⟩)
        | (go_at_call 16; refine (flush_un _ p hu3.out).mono ?_; rintro e w4 ⟨rfl, rfl⟩)
        | (go_at_call 23; refine (arm_un _ p _ hu3.out).mono ?_; rintro e w4 ⟨rfl, rfl⟩)
        | (go_at_call 15; refine (restart_un _ p _ hu3.out).mono ?_; rintro e w4 ⟨rfl, rfl⟩)
        | (go_at_call 25; refine (sectors_un _ p hu3.out).mono ?_; rintro e w4 ⟨rfl, rfl⟩)
        | (go_at_call 26; refine (ops_un _ p hu3.out).mono ?_; rintro e w4 ⟨rfl, rfl⟩)
        | (go_at_call 20; refine (pending_un _ p hu3.out).mono ?_; rintro e w4 ⟨rfl, rfl⟩)
        | (go_at_call 17; refine (sure_un _ p hu3.out).mono ?_; rintro e w4 ⟨rfl, rfl⟩)
        | (go_at_call 22; refine (down_un _ p hu3.out).mono ?_; rintro e w4 ⟨rfl, rfl⟩)
        | (go_at_call 9; refine (clone_un _ p hu3.out).mono ?_; rintro e w4 ⟨rfl, rfl⟩))
      refine ⟨⟨t + 1, by simp, HT.out, hr.out.below HW3.out⟩, ?_⟩
      have := HT.out
      simp only [intOf]
      omega
#print axioms nobody_is
end Go.Proofs.Ytfbdbamlffifpaa.Oct
