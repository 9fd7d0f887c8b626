/-
  Layer 7 (tree): what is asked of a map that has one leaf, or nothing.
-/
import Derived.Test.YtnagknlfboadkaaPairs
namespace Go.Proofs.Ytnagknlfboadkaa.Oct
open Go.RowKit

theorem made_nil (w : World) : Calls Try.prog 22 #[.pointer none] w fun e w' => e = .returned (.bool false) ∧ w = w' := by
  go_enter Try.func22, Try.ntmps22
  go_wp2
  go_ret
  exact ⟨rfl, rfl⟩
theorem made_is (w : World) (m : Nat) (b : Bool) (h : w.cell? ⟨m, 2, none⟩ = some (.bool b)) : Calls Try.prog 22 #[.pointer (some ⟨m, 0, none⟩)] w fun e w' => e = .returned (.bool b) ∧ w = w' := by
  go_enter Try.func22, Try.ntmps22
  go_wp2
  go_ret
  exact ⟨rfl, rfl⟩
theorem leaf_is (w : World) (nd : Nat) (h : w.cell? ⟨nd, 1, none⟩ = some (.slice none 0 0)) : Calls Try.prog 39 #[.pointer (some ⟨nd, 0, none⟩)] w fun e w' => e = .returned (.bool true) ∧ w = w' := by
  go_enter Try.func39, Try.ntmps39
  go_wp2
  go_ret
  exact ⟨rfl, rfl⟩
theorem get_nil (w : World) (key : ByteArray) : Calls Try.prog 30 #[.pointer none, .string key] w fun e w' => e = .returned (.tuple #[.string ⟨#[]⟩, .bool false]) ∧ Below w.heap.size w w' := by
  go_enter Try.func30, Try.ntmps30
  go_wp2
  go_loopw [0] (fun u wr => u = .pointer none ∧ Hid (w = wr)) (fun _ _ => 0)
  case atStart => exact ⟨rfl, rfl⟩
  case round =>
    obtain ⟨rfl, hw⟩ := hrel
    go_wp2
    go_ret2
    exact ⟨rfl, by rw [← hw.out]; exact Below.refl _ _⟩
#print axioms get_nil

/-- what a leaf tells of a key -/
def valP (ps : List Pr) (key : ByteArray) (k : Nat) : ByteArray := if isP ps key k = true then (match ps[k]? with | some x => x.2 | none => ⟨#[]⟩) else ⟨#[]⟩
theorem get_leaf (w : World) (nd : Nat) (a : Option Addr) (n cap : Nat) (ps : List Pr) (key : ByteArray) (h : Nd w nd a n cap ps (.slice none 0 0)) (hm : Mono ps key) (hn : n ≤ 140737488355328) :
    Calls Try.prog 30 #[.pointer (some ⟨nd, 0, none⟩), .string key] w fun e w' => ∃ k : Nat, e = .returned (.tuple #[.string (valP ps key k), .bool (isP ps key k)]) ∧ Hid (AtP ps key k) ∧ Hid (Below w.heap.size w w') := by
  have HM : Hid (Mono ps key) := hm
  have HN : Hid (n ≤ 140737488355328) := hn
  have HD : Hid (Nd w nd a n cap ps (.slice none 0 0)) := h
  clear hm hn h
  go_enter Try.func30, Try.ntmps30
  go_wp2
  go_loopw [0] (fun u wr => u = .pointer (some ⟨nd, 0, none⟩) ∧ Hid (w = wr)) (fun _ _ => 0)
  case atStart => exact ⟨rfl, rfl⟩
  case round =>
    obtain ⟨rfl, hw⟩ := hrel
    have HD1 : Hid (Nd wr nd a n cap ps (.slice none 0 0)) := by rw [← hw.out]; exact HD
    go_wp2_with fail
    refine (place_is wr nd a n cap ps _ key HD1.out HM.out HN.out).mono ?_
    rintro e w1 ⟨k, rfl, HA, HB1⟩
    have HD2 : Hid (Nd w1 nd a n cap ps (.slice none 0 0)) := HD1.out.below HB1.out (Nat.le_refl _)
    have HW : Hid (Below w.heap.size w w1) := by rw [hw.out]; exact HB1
    have c0 := HD2.out.blk.cell (i := 0) rfl
    have c1 := HD2.out.blk.cell (i := 1) rfl
    cases hi : isP ps key k with
    | true =>
      obtain ⟨x, hx⟩ : ∃ x, ps[k]? = some x := by
        cases hx : ps[k]? with
        | some x => exact ⟨x, rfl⟩
        | none => simp only [isP, hx] at hi; cases hi
      have hlt : k < n := by rw [← HD.out.rd.1]; exact (List.getElem?_eq_some_iff.1 hx).1
      obtain ⟨g, off, rfl, hg, hc⟩ := HD2.out.rd.2 (by omega)
      have c2 := (hc k x hx).2
      have HV : Hid (valP ps key k = x.2) := by show _ = _; simp only [valP, hi, hx, if_true]
      have HI : Hid (isP ps key k = true) := hi
      have q1 : (k : Int) < (n : Int) := by omega
      generalize x.2 = y at *
      clear hc hi hx hlt
      go_wp2
      go_ret2
      exact ⟨k, by rw [HV.out, HI.out]; rfl, HA, HW⟩
    | false =>
      have HV : Hid (valP ps key k = ⟨#[]⟩) := by show _ = _; simp [valP, hi]
      have HI : Hid (isP ps key k = false) := hi
      clear hi
      go_wp2_with (go_at_call 39; refine (leaf_is w1 nd c1).mono ?_; rintro e w2 ⟨rfl, rfl⟩)
      go_ret2
      exact ⟨k, by rw [HV.out, HI.out]; rfl, HA, HW⟩
#print axioms get_leaf
theorem depth_leaf (w : World) (nd : Nat) (h : w.cell? ⟨nd, 1, none⟩ = some (.slice none 0 0)) : Calls Try.prog 35 #[.pointer (some ⟨nd, 0, none⟩)] w fun e w' => e = .returned (.int .i64 1) ∧ w = w' := by
  go_enter Try.func35, Try.ntmps35
  go_wp2_with (go_at_call 39; refine (leaf_is w nd h).mono ?_; rintro e w2 ⟨rfl, rfl⟩)
  go_ret
  exact ⟨rfl, rfl⟩

/-- a map -/
def Mp (w : World) (m : Nat) (r : Value) (n : Nat) : Prop := Blk w m 48 [r, .int .i64 (n : Int), .bool true]
theorem len_is (w : World) (m : Nat) (r : Value) (n : Nat) (h : Mp w m r n) : Calls Try.prog 15 #[.pointer (some ⟨m, 0, none⟩)] w fun e w' => e = .returned (.int .i64 (n : Int)) ∧ w = w' := by
  have c2 := h.cell (i := 2) rfl
  have c1 := h.cell (i := 1) rfl
  go_enter Try.func15, Try.ntmps15
  go_wp2_with (go_at_call 22; refine (made_is w m true c2).mono ?_; rintro e w2 ⟨rfl, rfl⟩)
  go_ret
  exact ⟨rfl, rfl⟩
theorem depth_is (w : World) (m nd : Nat) (n : Nat) (h : Mp w m (.pointer (some ⟨nd, 0, none⟩)) n) (hl : w.cell? ⟨nd, 1, none⟩ = some (.slice none 0 0)) : Calls Try.prog 20 #[.pointer (some ⟨m, 0, none⟩)] w fun e w' => e = .returned (.int .i64 1) ∧ w = w' := by
  have c2 := h.cell (i := 2) rfl
  have c0 := h.cell (i := 0) rfl
  go_enter Try.func20, Try.ntmps20
  go_wp2_with (first | (go_at_call 22; refine (made_is w m true c2).mono ?_; rintro e w2 ⟨rfl, rfl⟩) | (go_at_call 35; refine (depth_leaf w nd hl).mono ?_; rintro e w3 ⟨rfl, rfl⟩))
  go_ret
  exact ⟨rfl, rfl⟩
theorem mget_is (w : World) (m nd : Nat) (a : Option Addr) (n cap c : Nat) (ps : List Pr) (key : ByteArray) (hmp : Mp w m (.pointer (some ⟨nd, 0, none⟩)) c) (h : Nd w nd a n cap ps (.slice none 0 0)) (hm : Mono ps key) (hn : n ≤ 140737488355328) :
    Calls Try.prog 21 #[.pointer (some ⟨m, 0, none⟩), .string key] w fun e w' => ∃ k : Nat, e = .returned (.tuple #[.string (valP ps key k), .bool (isP ps key k)]) ∧ Hid (AtP ps key k) ∧ Hid (Below w.heap.size w w') := by
  have c2 := hmp.cell (i := 2) rfl
  have c0 := hmp.cell (i := 0) rfl
  have HC := And.intro h (And.intro hm hn)
  have HC' : Hid (Nd w nd a n cap ps (.slice none 0 0) ∧ Mono ps key ∧ n ≤ 140737488355328) := HC
  clear HC h hm hn hmp
  go_enter Try.func21, Try.ntmps21
  go_wp2_with (first | (go_at_call 22; refine (made_is w m true c2).mono ?_; rintro e w2 ⟨rfl, rfl⟩) | (go_at_call 30; refine (get_leaf w nd a n cap ps key HC'.out.1 HC'.out.2.1 HC'.out.2.2).mono ?_; rintro e w3 ⟨k, rfl, HA, HB⟩))
  go_ret2
  exact ⟨k, rfl, HA, HB⟩
#print axioms mget_is
theorem new_is (w : World) : Calls Try.prog 10 #[] w fun e w' => e = .returned (.pointer (some ⟨w.heap.size, 0, none⟩)) ∧ Hid (Mp w' w.heap.size (.pointer none) 0) ∧ Hid (Below w.heap.size w w') := by
  go_enter Try.func10, Try.ntmps10
  go_wp2
  go_ret
  exact ⟨rfl, Blk.new _ _ _, (Below.refl _ w).alloc (Nat.le_refl _) _⟩
#print axioms new_is
end Go.Proofs.Ytnagknlfboadkaa.Oct
