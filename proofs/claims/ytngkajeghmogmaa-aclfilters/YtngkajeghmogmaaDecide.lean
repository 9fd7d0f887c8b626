/-
  Layer 17 (acl): Decide.
-/
import Derived.Test.YtngkajeghmogmaaNear
namespace Go.Proofs.Ytngkajeghmogmaa.Oct
open Go.RowKit Go.Shelf

def near (rs : List Ru) : List Ru := rs.filter fun r => r.pre.size == mx rs
def decB (l : List Ru) (s : Sj) (ch path : BA) (right : Int) : Bool :=
  if isPath path.data.toList && rightOk right then
    (if (near (l.filter fun r => matB r s ch path right)).isEmpty then s.role == 2 else !((near (l.filter fun r => matB r s ch path right)).any (·.deny)))
  else false
set_option maxRecDepth 100000 in
set_option maxHeartbeats 2000000 in
theorem decide_is (l : List Ru) (a : Option Addr) (n cp : Nat) (s : Sj) (ch path : BA) (right : Int) (w : World) (hl : RuS w a n l) (hn : n ≤ 2199023255551) (hs : s.at w) (hp : path.size ≤ 140737488355328) :
    Calls Try.prog 30 #[.slice a n cp, sv s, .string ch, .string path, iv right] w fun e w' => e = .returned (.bool (decB l s ch path right)) ∧ Below w.heap.size w w' := by
  obtain ⟨g, hg⟩ : ∃ g, w.heap.size = g := ⟨_, rfl⟩
  obtain ⟨W1, hW1⟩ : ∃ W1, (((w.alloc (.cells #[.string s.user, .slice s.ta s.tn s.tc, iv s.role] 25)).alloc (.cells #[.string ch] 9)).alloc (.cells #[.string path] 9)).alloc (.cells #[iv right] 3) = W1 := ⟨_, rfl⟩
  obtain ⟨g1, hg1⟩ : ∃ g1, g + 1 = g1 := ⟨_, rfl⟩
  obtain ⟨g2, hg2⟩ : ∃ g2, g1 + 1 = g2 := ⟨_, rfl⟩
  obtain ⟨g3, hg3⟩ : ∃ g3, g2 + 1 = g3 := ⟨_, rfl⟩
  have K1 : Hid (Kp w g 25 [.string s.user, .slice s.ta s.tn s.tc, iv s.role] W1 ∧ Kp w g1 9 [.string ch] W1 ∧ Kp w g2 9 [.string path] W1 ∧ Kp w g3 3 [iv right] W1) := by
    rw [← hW1, ← hg3, ← hg2, ← hg1, ← hg]
    have h1 := Kp.new w #[.string s.user, .slice s.ta s.tn s.tc, iv s.role] 25
    have h2 := h1.step (below_al _ (.cells #[.string ch] 9))
    have h3 := h2.step (below_al _ (.cells #[.string path] 9))
    have h4 := h3.step (below_al _ (.cells #[iv right] 3))
    refine ⟨h4, ⟨h4.1, ?_⟩, ⟨h4.1, ?_⟩, h4.1, ?_⟩
    · have := ((Blk.new (w.alloc (.cells #[.string s.user, .slice s.ta s.tn s.tc, iv s.role] 25)) #[.string ch] 9).alloc (.cells #[.string path] 9)).alloc (.cells #[iv right] 3)
      rw [World.size_alloc] at this
      exact this
    · have := (Blk.new ((w.alloc (.cells #[.string s.user, .slice s.ta s.tn s.tc, iv s.role] 25)).alloc (.cells #[.string ch] 9)) #[.string path] 9).alloc (.cells #[iv right] 3)
      rw [World.size_alloc, World.size_alloc] at this
      exact this
    · have := Blk.new (((w.alloc (.cells #[.string s.user, .slice s.ta s.tn s.tc, iv s.role] 25)).alloc (.cells #[.string ch] 9)).alloc (.cells #[.string path] 9)) #[iv right] 3
      rw [World.size_alloc, World.size_alloc, World.size_alloc] at this
      exact this
  have HL1 : Hid (RuS W1 a n l ∧ n ≤ 2199023255551 ∧ s.at W1 ∧ path.size ≤ 140737488355328) := ⟨hl.below K1.out.1.1, hn, hs.below K1.out.1.1, hp⟩
  have HP := path_is path W1 hp
  have HR := isRight_is right
  have c2 : W1.cell? ⟨g2, 0, none⟩ = some (.string path) := K1.out.2.2.1.2.cell rfl
  have c3 : W1.cell? ⟨g3, 0, none⟩ = some (iv right) := K1.out.2.2.2.2.cell rfl
  have HK : Hid (∀ V, Below W1.heap.size W1 V → Calls Try.prog 47 #[.slice a n cp, .func (.func 48) #[] #[.pointer (some ⟨g, 0, none⟩), .pointer (some ⟨g1, 0, none⟩), .pointer (some ⟨g2, 0, none⟩), .pointer (some ⟨g3, 0, none⟩)]] V (PickP V l fun r => matB r s ch path right)) := fun V hV =>
    pick48_is (fun r => matB r s ch path right) _ _ _ _ l a n cp V (HL1.out.1.below hV) HL1.out.2.1 (fun r hr V2 hV2 => by
      have hb := hV.trans (hV2.mono hV.size)
      exact clos48_is r (HL1.out.1.2.1 r hr) s ch path right g g1 g2 g3 V2 (HL1.out.2.2.1.below hb) HL1.out.2.2.2 (K1.out.1.2.below hb K1.out.1.2.lt) (K1.out.2.1.2.below hb K1.out.2.1.2.lt) (K1.out.2.2.1.2.below hb K1.out.2.2.1.2.lt) (K1.out.2.2.2.2.below hb K1.out.2.2.2.2.lt))
  obtain ⟨m, hm⟩ : ∃ m, decB l s ch path right = m := ⟨_, rfl⟩
  rw [hm]
  unfold decB at hm
  generalize isPath path.data.toList = b1 at HP hm
  generalize rightOk right = b2 at HR hm
  generalize hms : (l.filter fun r => matB r s ch path right) = ms at hm
  have HMS : Hid ((l.filter fun r => matB r s ch path right) = ms) := hms
  have HD : Hid ((if b1 && b2 then (if (near ms).isEmpty then s.role == 2 else !((near ms).any (·.deny))) else false) = m) := hm
  clear hl hn hs hp hms hm
  go_enter Try.func30, Try.ntmps30
  go_wp2_with fail
  refine HP.mono ?_
  rintro e w1 ⟨rfl, hb1⟩
  have K2 : Hid (Below W1.heap.size W1 w1 ∧ Below w.heap.size w w1) := ⟨hb1, K1.out.1.1.trans (hb1.mono K1.out.1.1.size)⟩
  have d3 : w1.cell? ⟨g3, 0, none⟩ = some (iv right) := (K1.out.2.2.2.2.below hb1 K1.out.2.2.2.2.lt).cell rfl
  clear HP hb1 c2 c3 hW1 hg hg1 hg2 hg3
  cases b1
  · go_wp2
    go_ret
    exact ⟨by rw [← HD.out]; rfl, K2.out.2⟩
  cases b2
  · go_wp2_with (go_at_call 25; refine (HR _).mono ?_; rintro e w2 ⟨rfl, rfl⟩)
    go_ret
    exact ⟨by rw [← HD.out]; rfl, K2.out.2⟩
  go_wp2_with (first | (go_at_call 25; refine (HR _).mono ?_; rintro e w2 ⟨rfl, rfl⟩) | (go_at_call 47; refine Hid.out ?_))
  show Calls _ _ _ _ _
  refine (HK.out w1 K2.out.1).mono ?_
  rintro e w3 ⟨a3, n3, c3, rfl, h31, h32, h33⟩
  have K3 : Hid (RuS w3 a3 n3 ms ∧ n3 ≤ 2199023255551 ∧ Below W1.heap.size W1 w3 ∧ Below w.heap.size w w3) := ⟨by rw [← HMS.out]; exact h31, h32, K2.out.1.trans (h33.mono K2.out.1.size), K2.out.2.trans (h33.mono K2.out.2.size)⟩
  clear h31 h32 h33 d3
  go_wp2_with fail
  refine (nearest_is ms a3 n3 c3 w3 K3.out.1 K3.out.2.1).mono ?_
  rintro e w4 ⟨a4, n4, c4, rfl, h41, h42, h43⟩
  have K4 : Hid (RuS w4 a4 n4 (near ms) ∧ n4 ≤ 2199023255551 ∧ Below W1.heap.size W1 w4 ∧ Below w.heap.size w w4) := ⟨h41, h42, K3.out.2.2.1.trans (h43.mono K3.out.2.2.1.size), K3.out.2.2.2.trans (h43.mono K3.out.2.2.2.size)⟩
  have HA := any_is (near ms) a4 n4 c4 w4 K4.out.1 K4.out.2.1
  have d0 : w4.cell? ⟨g, 2, none⟩ = some (iv s.role) := (K1.out.1.2.below K4.out.2.2.1 K1.out.1.2.lt).cell rfl
  clear h41 h42 h43
  by_cases h0 : n4 = 0
  · have HE : Hid ((near ms).isEmpty = true) := by
      show _ = _
      have := K4.out.1.1
      rw [h0] at this
      rw [List.length_eq_zero_iff.1 this]
      rfl
    subst h0
    go_wp2
    go_ret
    exact ⟨by rw [← HD.out, HE.out]; rfl, K4.out.2.2.2⟩
  · have HE : Hid ((near ms).isEmpty = false) := by
      show _ = _
      have := K4.out.1.1
      cases hq : near ms with
      | nil => rw [hq] at this; simp at this; omega
      | cons x y => rfl
    have q0 : ((n4 : Int) == 0) = false := by simp; omega
    go_wp2_with (go_at_call 49; refine HA.mono ?_; rintro e w5 ⟨rfl, hb5⟩)
    go_ret
    exact ⟨by rw [← HD.out, HE.out]; rfl, K4.out.2.2.2.trans (hb5.mono K4.out.2.2.2.size)⟩
#print axioms decide_is
end Go.Proofs.Ytngkajeghmogmaa.Oct
