/-
  Layer 17 (acl): the chapter's example.
-/
import Derived.Test.YtngkajeghmogmaaFilter
namespace Go.Proofs.Ytngkajeghmogmaa.Oct
open Go.RowKit Go.Shelf

def rA : Ru := ⟨⟨#[42]⟩, ⟨#[]⟩, ⟨#[]⟩, 1, false⟩
def rB : Ru := ⟨⟨#[117, 58, 97, 110, 110]⟩, ⟨#[]⟩, ⟨#[97]⟩, 1, true⟩
def rC : Ru := ⟨⟨#[116, 58, 111, 112, 115]⟩, ⟨#[]⟩, ⟨#[97, 47, 98]⟩, 1, false⟩
def ann (a : Option Addr) : Sj := ⟨⟨#[97, 110, 110]⟩, a, 1, 1, 1, [⟨#[111, 112, 115]⟩]⟩
def pths : List BA := [⟨#[99]⟩, ⟨#[97, 47, 120]⟩, ⟨#[97, 47, 98, 47, 99]⟩]
theorem exam (a : Option Addr) : (pths.filter fun p => decB [rA, rB, rC] (ann a) ⟨#[109, 97, 105, 110]⟩ p 1) = [⟨#[99]⟩, ⟨#[97, 47, 98, 47, 99]⟩] := by
  have h1 : decB [rA, rB, rC] (ann a) ⟨#[109, 97, 105, 110]⟩ ⟨#[99]⟩ 1 = true := by kernel_rfl
  have h2 : decB [rA, rB, rC] (ann a) ⟨#[109, 97, 105, 110]⟩ ⟨#[97, 47, 120]⟩ 1 = false := by kernel_rfl
  have h3 : decB [rA, rB, rC] (ann a) ⟨#[109, 97, 105, 110]⟩ ⟨#[97, 47, 98, 47, 99]⟩ 1 = true := by kernel_rfl
  simp only [pths, List.filter_cons, h1, h2, h3, if_true, Bool.false_eq_true, if_false, List.filter_nil]
theorem exam2 : ruleOk rB = true := by kernel_rfl
#print axioms exam
#print axioms exam2

def c15 : List Value := [.string ⟨#[42]⟩, .string ⟨#[]⟩, .string ⟨#[]⟩, iv 1, .bool false, .string ⟨#[117, 58, 97, 110, 110]⟩, .string ⟨#[]⟩, .string ⟨#[97]⟩, iv 1, .bool true, .string ⟨#[116, 58, 111, 112, 115]⟩, .string ⟨#[]⟩, .string ⟨#[97, 47, 98]⟩, iv 1, .bool false]
theorem rus3 {W : World} {g : Nat} (h : Blk W g 31 c15) : RuS W (some ⟨g, 0, none⟩) 3 [rA, rB, rC] := by
  refine RuS.of ⟨rfl, flat_one _, fun _ => ⟨g, 0, rfl, h.lt, fun j u hj => ?_⟩⟩ ?_
  · rw [Nat.zero_add]
    exact h.cell hj
  · intro r hr
    simp only [List.mem_cons, List.not_mem_nil, or_false] at hr
    rcases hr with rfl | rfl | rfl <;> exact ⟨(by decide : (_ : Nat) ≤ 140737488355328), (by decide : (_ : Nat) ≤ 140737488355328), (by decide : (_ : Nat) ≤ 140737488355328)⟩
theorem strs_of {W : World} {g : Nat} {l : List BA} (h : Blk W g 9 (fs l)) : Strs W (some ⟨g, 0, none⟩) l.length l :=
  Strs.of ⟨by simp [fs], fs_one _, fun _ => ⟨g, 0, rfl, h.lt, fun j u hj => by rw [Nat.zero_add]; exact h.cell hj⟩⟩
set_option maxRecDepth 100000 in
set_option maxHeartbeats 1000000 in
theorem lives_is (w : World) : Calls Try.prog 10 #[] w fun e w' => e = .returned (.bool true) ∧ Below w.heap.size w w' := by
  obtain ⟨W1, hW1⟩ : ∃ W1, w.alloc (.cells #[.string ⟨#[42]⟩, .string ⟨#[]⟩, .string ⟨#[]⟩, iv 1, .bool false, .string ⟨#[117, 58, 97, 110, 110]⟩, .string ⟨#[]⟩, .string ⟨#[97]⟩, iv 1, .bool true, .string ⟨#[116, 58, 111, 112, 115]⟩, .string ⟨#[]⟩, .string ⟨#[97, 47, 98]⟩, iv 1, .bool false] 31) = W1 := ⟨_, rfl⟩
  obtain ⟨W2, hW2⟩ : ∃ W2, W1.alloc (.cells #[.string ⟨#[111, 112, 115]⟩] 9) = W2 := ⟨_, rfl⟩
  obtain ⟨g, hg⟩ : ∃ g, w.heap.size = g := ⟨_, rfl⟩
  obtain ⟨g1, hg1⟩ : ∃ g1, g + 1 = g1 := ⟨_, rfl⟩
  obtain ⟨g2, hg2⟩ : ∃ g2, g1 + 1 = g2 := ⟨_, rfl⟩
  obtain ⟨g3, hg3⟩ : ∃ g3, g2 + 1 = g3 := ⟨_, rfl⟩
  obtain ⟨W4, hW4⟩ : ∃ W4, (W2.alloc (.cells #[.string ⟨#[97, 110, 110]⟩, .slice (some ⟨g1, 0, none⟩) 1 1, iv 1] 25)).alloc (.cells #[.string ⟨#[99]⟩, .string ⟨#[97, 47, 120]⟩, .string ⟨#[97, 47, 98, 47, 99]⟩] 9) = W4 := ⟨_, rfl⟩
  have s1 : W1.heap.size = g1 := by rw [← hW1, World.size_alloc, hg, hg1]
  have s2 : W2.heap.size = g2 := by rw [← hW2, World.size_alloc, s1, hg2]
  have B1 : Blk W1 g 31 c15 := by rw [← hW1, ← hg]; exact Blk.new w c15.toArray 31
  have B2 : Blk W2 g1 9 (fs [⟨#[111, 112, 115]⟩]) := by rw [← hW2, ← s1]; exact Blk.new W1 _ 9
  have L2 : Below w.heap.size w W2 := by
    rw [← hW2]
    have : Below w.heap.size w W1 := by rw [← hW1]; exact below_al w _
    exact this.trans ((below_al W1 _).mono this.size)
  have L4 : Below W2.heap.size W2 W4 := by
    rw [← hW4]
    exact (below_al W2 _).trans ((below_al _ _).mono (below_al W2 _).size)
  have B12 : Blk W2 g 31 c15 := by rw [← hW2]; exact B1.alloc _
  have B4 : Blk W4 g3 9 (fs pths) := by
    have := Blk.new (W2.alloc (.cells #[.string ⟨#[97, 110, 110]⟩, .slice (some ⟨g1, 0, none⟩) 1 1, iv 1] 25)) #[.string ⟨#[99]⟩, .string ⟨#[97, 47, 120]⟩, .string ⟨#[97, 47, 98, 47, 99]⟩] 9
    rw [World.size_alloc, s2, hg3, hW4] at this
    exact this
  have HF : Calls Try.prog 19 #[.slice (some ⟨g, 0, none⟩) 3 3, .agg #[.string ⟨#[97, 110, 110]⟩, .slice (some ⟨g1, 0, none⟩) 1 1, iv 1], .string ⟨#[109, 97, 105, 110]⟩, .slice (some ⟨g3, 0, none⟩) 3 3, iv 1] W4 (PickS W4 pths fun p => decB [rA, rB, rC] (ann (some ⟨g1, 0, none⟩)) ⟨#[109, 97, 105, 110]⟩ p 1) := filter_is [rA, rB, rC] (some ⟨g, 0, none⟩) 3 3 (ann (some ⟨g1, 0, none⟩)) ⟨#[109, 97, 105, 110]⟩ pths (some ⟨g3, 0, none⟩) 3 3 1 W4 (rus3 (B12.below L4 B12.lt)) (by omega) ⟨strs_of (B2.below L4 B2.lt), (by omega : (1 : Nat) ≤ 140737488355328)⟩ (strs_of B4) (by omega) (by
    intro p hp
    simp only [pths, List.mem_cons, List.not_mem_nil, or_false] at hp
    rcases hp with rfl | rfl | rfl <;> decide)
  have HW : Hid (Below w.heap.size w W4 ∧ Blk W4 g 31 c15) := ⟨L2.trans (L4.mono L2.size), B12.below L4 B12.lt⟩
  clear B1 B2 L2 L4 B12 B4
  go_enter Try.func10, Try.ntmps10
  go_wp2_with fail
  refine HF.mono ?_
  rintro e w5 ⟨a5, n5, c5, rfl, h51, h52⟩
  rw [exam] at h51
  have K5 : Hid (Strs w5 a5 2 [⟨#[99]⟩, ⟨#[97, 47, 98, 47, 99]⟩] ∧ Below w.heap.size w w5 ∧ Blk w5 g 31 c15) := ⟨by have := h51.1; subst this; exact h51, HW.out.1.trans (h52.mono HW.out.1.size), HW.out.2.below h52 HW.out.2.lt⟩
  have hn5 : n5 = 2 := by have := h51.1; simpa using this.symm
  subst hn5
  obtain ⟨w6, hw6⟩ : ∃ w6, w5.alloc (.cells #[.string ⟨#[99]⟩, .string ⟨#[97, 47, 98, 47, 99]⟩] 9) = w6 := ⟨_, rfl⟩
  have HT := texts_same (w := w6) (a := a5) (b := some ⟨w5.heap.size, 0, none⟩) (n := 2) (c := c5) (d := 2) (l := [⟨#[99]⟩, ⟨#[97, 47, 98, 47, 99]⟩]) (by rw [← hw6]; exact K5.out.1.below (below_al w5 _)) (by rw [← hw6]; exact strs_of (l := [⟨#[99]⟩, ⟨#[97, 47, 98, 47, 99]⟩]) (Blk.new w5 _ 9)) (by omega)
  have HK6 : Hid (Below w.heap.size w w6 ∧ Blk w6 g 31 c15) := by rw [← hw6]; exact ⟨K5.out.2.1.trans ((below_al w5 _).mono K5.out.2.1.size), K5.out.2.2.alloc _⟩
  clear HF h51 h52 hW1 hW2 hW4 hg hg1 hg2 hg3 s1 s2
  go_wp2_with fail
  refine HT.mono ?_
  rintro e w7 ⟨rfl, hb7⟩
  have HK7 : Hid (Below w.heap.size w w7 ∧ Blk w7 g 31 c15) := ⟨HK6.out.1.trans (hb7.mono HK6.out.1.size), HK6.out.2.below hb7 HK6.out.2.lt⟩
  have d0 : w7.cell? ⟨g, 5, none⟩ = some (.string rB.who) := HK7.out.2.cell rfl
  have d1 : w7.cell? ⟨g, 6, none⟩ = some (.string rB.ch) := HK7.out.2.cell rfl
  have d2 : w7.cell? ⟨g, 7, none⟩ = some (.string rB.pre) := HK7.out.2.cell rfl
  have d3 : w7.cell? ⟨g, 8, none⟩ = some (iv rB.right) := HK7.out.2.cell rfl
  have d4 : w7.cell? ⟨g, 9, none⟩ = some (.bool rB.deny) := HK7.out.2.cell rfl
  have HR := right_is rB ⟨(by decide : (_ : Nat) ≤ 140737488355328), (by decide : (_ : Nat) ≤ 140737488355328), (by decide : (_ : Nat) ≤ 140737488355328)⟩ w7
  rw [exam2] at HR
  generalize rB = rb at d0 d1 d2 d3 d4 HR
  clear HT hb7 hw6
  go_wp2_with (go_at_call 11; refine HR.mono ?_; rintro e w8 ⟨rfl, hb8⟩)
  go_ret
  exact ⟨rfl, HK7.out.1.trans (hb8.mono HK7.out.1.size)⟩
#print axioms lives_is
theorem lives_st {w0 W : World} (h : Below w0.heap.size w0 W) : Calls Try.prog 10 #[] W fun e w' => e = .returned (.bool true) ∧ Below w0.heap.size w0 w' :=
  (lives_is W).mono fun _ _ ⟨h1, h2⟩ => ⟨h1, h.trans (h2.mono h.size)⟩
end Go.Proofs.Ytngkajeghmogmaa.Oct
