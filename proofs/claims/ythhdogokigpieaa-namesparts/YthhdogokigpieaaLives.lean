/-
  Layer 9 (names): the chapter's examples.
-/
import Derived.Test.YthhdogokigpieaaLongest
namespace Go.Proofs.Ythhdogokigpieaa.Oct
open Go.RowKit Go.Shelf

theorem ex1 : cov ⟨#[97, 47, 98]⟩ ⟨#[97, 47, 98, 47, 99]⟩ = true := by decide +kernel
theorem ex2 : cov ⟨#[97, 47, 98]⟩ ⟨#[97, 47, 98, 99]⟩ = false := by decide +kernel
theorem ex3 : (lngAt [⟨#[]⟩, ⟨#[97]⟩, ⟨#[97, 47, 98]⟩, ⟨#[97]⟩] ⟨#[97, 47, 120]⟩ 4).1 = 1 := by decide +kernel
theorem ex4 : isName [97, 45, 49] = true := by decide +kernel
theorem name_b (s : ByteArray) (b : Bool) (hb : isName s.data.toList = b) (w : World) (hn : s.size ≤ 140737488355328) : Calls Try.prog 9 #[.string s] w fun e w' => e = .returned (.bool b) ∧ w = w' := by
  subst hb; exact name_is s w hn
theorem longest_i (l : List ByteArray) (s : ByteArray) (a : Option Addr) (n cp : Nat) (i : Int) (hi : (lngAt l s n).1 = i) (w : World) (hl : Strs w a n l) (hs : s.size ≤ 140737488355328) (hn : n ≤ 140737488355328) :
    Calls Try.prog 19 #[.slice a n cp, .string s] w fun e w' => e = .returned (.int .i64 i) ∧ Below w.heap.size w w' := by
  subst hi; exact longest_is l s a n cp w hl hs hn

theorem four_strs {w : World} {b : Nat} {x0 x1 x2 x3 : ByteArray} {t : TypeId} (h : w.heap[b]? = some (.cells #[.string x0, .string x1, .string x2, .string x3] t)) : Strs w (some ⟨b, 0, none⟩) 4 [x0, x1, x2, x3] := by
  refine ⟨rfl, fun _ => ⟨b, 0, rfl, (Array.getElem?_eq_some_iff.1 h).1, fun i x hx => ?_⟩⟩
  rw [Nat.zero_add]
  rw [cell_of_row w b i _ t (0, 0) h]
  match i, hx with
  | 0, hx => simp at hx; subst hx; rfl
  | 1, hx => simp at hx; subst hx; rfl
  | 2, hx => simp at hx; subst hx; rfl
  | 3, hx => simp at hx; subst hx; rfl
  | n + 4, hx => simp at hx

set_option maxRecDepth 100000 in
set_option maxHeartbeats 2000000 in
theorem lives_is (w : World) : Calls Try.prog 8 #[] w fun e w' => e = .returned (.bool true) ∧ Below w.heap.size w w' := by
  go_enter Try.func8, Try.ntmps8
  go_wp2_with fail
  refine (covers_b _ _ true ex1 _ (by decide)).mono ?_
  rintro e w1 ⟨rfl, hB1⟩
  have HB1 : Hid (Below w.heap.size w w1) := hB1
  clear hB1
  go_wp2_with fail
  refine (covers_b _ _ false ex2 _ (by decide)).mono ?_
  rintro e w2 ⟨rfl, hB2⟩
  have HB2 : Hid (Below w.heap.size w w2) := HB1.out.trans (hB2.mono HB1.out.size)
  clear hB2
  go_wp2_with fail
  have hB3 : Below w.heap.size w (w2.alloc (.cells #[.string ⟨#[]⟩, .string ⟨#[97]⟩, .string ⟨#[97, 47, 98]⟩, .string ⟨#[97]⟩] 9)) := HB2.out.alloc HB2.out.size _
  refine (longest_i [⟨#[]⟩, ⟨#[97]⟩, ⟨#[97, 47, 98]⟩, ⟨#[97]⟩] _ _ _ _ 1 ex3 _ (four_strs (World.alloc_heap_new w2 _)) (by decide) (by decide)).mono ?_
  rintro e w3 ⟨rfl, hB4⟩
  have HB3 : Hid (Below w.heap.size w w3) := hB3.trans (hB4.mono hB3.size)
  clear hB3 hB4
  go_wp2_with fail
  refine (name_b _ true ex4 _ (by decide)).mono ?_
  rintro e w4 ⟨rfl, rfl⟩
  go_wp2_with fail
  go_ret
  exact ⟨rfl, HB3.out⟩
#print axioms lives_is
end Go.Proofs.Ythhdogokigpieaa.Oct
