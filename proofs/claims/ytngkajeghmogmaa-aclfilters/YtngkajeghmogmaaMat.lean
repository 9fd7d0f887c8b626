/-
  Layer 17 (acl): means, Matches.
-/
import Derived.Test.YtngkajeghmogmaaRule
namespace Go.Proofs.Ytngkajeghmogmaa.Oct
open Go.RowKit Go.Shelf

/-- someone: the name, the teams, the role -/
structure Sj where
  user : BA
  ta : Option Addr
  tn : Nat
  tc : Nat
  role : Int
  teams : List BA
abbrev sv (s : Sj) : Value := .agg #[.string s.user, .slice s.ta s.tn s.tc, iv s.role]
def Sj.at (s : Sj) (w : World) : Prop := Strs w s.ta s.tn s.teams ∧ s.tn ≤ 140737488355328
theorem Sj.at.below {s : Sj} {w w' : World} (h : s.at w) (hb : Below w.heap.size w w') : s.at w' := ⟨h.1.below hb, h.2⟩
def meansB (who : BA) (s : Sj) : Bool := if (kindOf who).toList == [42] then true else if (kindOf who).toList == [117, 58] then among (nameOf who) [s.user] else if (kindOf who).toList == [116, 58] then among (nameOf who) s.teams else false
set_option maxRecDepth 100000 in
set_option maxHeartbeats 1000000 in
theorem means_is (who : BA) (s : Sj) (w : World) (hs : s.at w) : Calls Try.prog 28 #[.string who, sv s] w fun e w' => e = .returned (.bool (meansB who s)) ∧ Below w.heap.size w w' := by
  obtain ⟨user, ta, tn, tc, role, teams⟩ := s
  obtain ⟨g, hg⟩ : ∃ g, w.heap.size = g := ⟨_, rfl⟩
  obtain ⟨W1, hW1⟩ : ∃ W1, w.alloc (.cells #[.string user, .slice ta tn tc, iv role] 25) = W1 := ⟨_, rfl⟩
  have K1 : Hid (Kp w g 25 [.string user, .slice ta tn tc, iv role] W1) := by rw [← hW1, ← hg]; exact Kp.new w #[.string user, .slice ta tn tc, iv role] 25
  have HST : Hid (Strs W1 ta tn teams ∧ tn ≤ 140737488355328) := ⟨hs.1.below K1.out.1, hs.2⟩
  have HS := split_is who W1
  unfold meansB
  generalize kindOf who = k at *
  generalize nameOf who = nm at *
  dsimp only
  generalize hk1 : (k.toList == [42]) = b1
  generalize hk2 : (k.toList == [117, 58]) = b2
  generalize hk3 : (k.toList == [116, 58]) = b3
  have HC1 : Hid (∀ V, Kp w g 25 [.string user, .slice ta tn tc, iv role] V → Below W1.heap.size W1 V → Calls Try.prog 45 #[.slice ta tn tc, .string nm] V fun e w' => e = .returned (.bool (among nm teams)) ∧ V = w') := fun V _ hb => contains_is nm teams ta tn tc V (HST.out.1.below hb) HST.out.2
  have HC2 : Hid (∀ V : World, Calls Try.prog 45 #[.slice (some ⟨V.heap.size, 0, none⟩) 1 1, .string nm] (V.alloc (.cells #[.string user] 9)) fun e w' => e = .returned (.bool (among nm [user])) ∧ V.alloc (.cells #[.string user] 9) = w') := fun V => contains_is nm [user] _ 1 1 _ ⟨rfl, fun _ => ⟨V.heap.size, 0, rfl, by simp, fun i x hx => by
    rw [Nat.zero_add]
    have := (Blk.new V #[.string user] 9).cell (i := i) (v := .string x)
    refine this ?_
    cases i with
    | zero => simp at hx; simp [hx]
    | succ i => simp at hx⟩⟩ (by omega)
  generalize among nm teams = m1 at HC1 ⊢
  generalize among nm [user] = m2 at HC2 ⊢
  clear hs
  go_enter Try.func28, Try.ntmps28
  go_wp2_with fail
  refine HS.mono ?_
  rintro e w1 ⟨rfl, hb1⟩
  have K2 : Hid (Kp w g 25 [.string user, .slice ta tn tc, iv role] w1) := K1.out.step hb1
  have HB1 : Hid (Below W1.heap.size W1 w1) := hb1
  have d0 : w1.cell? ⟨g, 0, none⟩ = some (.string user) := K2.out.2.cell rfl
  have d1 : w1.cell? ⟨g, 1, none⟩ = some (.slice ta tn tc) := K2.out.2.cell rfl
  clear HS hb1 hW1 hg
  cases b1
  · cases b2
    · cases b3
      · go_wp2
        go_ret
        exact ⟨by simp, K2.out.1⟩
      · go_wp2_with (go_at_call 45; refine (HC1.out w1 K2.out HB1.out).mono ?_; rintro e w3 ⟨rfl, rfl⟩)
        go_ret
        exact ⟨by simp, K2.out.1⟩
    · go_wp2_with (go_at_call 45; refine (HC2.out _).mono ?_; rintro e w3 ⟨rfl, rfl⟩)
      go_ret
      exact ⟨by simp, K2.out.1.trans ((below_al w1 _).mono K2.out.1.size)⟩
  · go_wp2
    go_ret
    exact ⟨by simp, K2.out.1⟩
#print axioms means_is
def matB (r : Ru) (s : Sj) (ch path : BA) (right : Int) : Bool := ruleOk r && r.right == right && (emp r.ch || r.ch.toList == ch.toList) && cov r.pre path && meansB r.who s
set_option maxRecDepth 100000 in
set_option maxHeartbeats 2000000 in
theorem matches_is (r : Ru) (hr : r.short) (s : Sj) (ch path : BA) (right : Int) (w : World) (hs : s.at w) (hp : path.size ≤ 140737488355328) : Calls Try.prog 13 #[ruv r, sv s, .string ch, .string path, iv right] w fun e w' => e = .returned (.bool (matB r s ch path right)) ∧ Below w.heap.size w w' := by
  obtain ⟨g, hg⟩ : ∃ g, w.heap.size = g := ⟨_, rfl⟩
  obtain ⟨W1, hW1⟩ : ∃ W1, (w.alloc (.cells #[.string r.who, .string r.ch, .string r.pre, iv r.right, .bool r.deny] 31)).alloc (.cells #[.string s.user, .slice s.ta s.tn s.tc, iv s.role] 25) = W1 := ⟨_, rfl⟩
  have K1 : Hid (Kp w g 31 [.string r.who, .string r.ch, .string r.pre, iv r.right, .bool r.deny] W1 ∧ Kp w (g + 1) 25 [.string s.user, .slice s.ta s.tn s.tc, iv s.role] W1) := by
    rw [← hW1, ← hg]
    have h1 := Kp.new w #[.string r.who, .string r.ch, .string r.pre, iv r.right, .bool r.deny] 31
    have h2 := h1.step (below_al _ (.cells #[.string s.user, .slice s.ta s.tn s.tc, iv s.role] 25))
    refine ⟨h2, h2.1, ?_⟩
    have := Blk.new (w.alloc (.cells #[.string r.who, .string r.ch, .string r.pre, iv r.right, .bool r.deny] 31)) #[.string s.user, .slice s.ta s.tn s.tc, iv s.role] 25
    rw [World.size_alloc] at this
    exact this
  have HR := right_is r hr W1
  have HCV := fun W => covers_is r.pre path W hp
  have HST : Hid (s.at W1) := hs.below K1.out.1.1
  have HM : Hid (∀ V, Below W1.heap.size W1 V → Calls Try.prog 28 #[.string r.who, sv s] V fun e w' => e = .returned (.bool (meansB r.who s)) ∧ Below V.heap.size V w') := fun V hb => means_is r.who s V (HST.out.below hb)
  unfold matB
  have E2 := emp_eq r.ch
  have F2 : r.ch.toList.isEmpty = emp r.ch := rfl
  generalize emp r.ch = b3 at E2 F2 ⊢
  generalize hq : (r.ch.toList == ch.toList) = b4
  generalize hq2 : (r.right == right) = b2
  generalize ruleOk r = b1 at HR ⊢
  generalize cov r.pre path = b5 at HCV ⊢
  generalize meansB r.who s = b6 at HM ⊢
  have HE : Hid ((r.ch.toList == []) = b3 ∧ r.ch.toList.isEmpty = b3 ∧ (r.ch.toList == ch.toList) = b4 ∧ (r.right == right) = b2) := ⟨E2, F2, hq, hq2⟩
  clear E2 F2 hq hq2 hr hs hp
  have c0 : W1.cell? ⟨g, 0, none⟩ = some (.string r.who) := K1.out.1.2.cell rfl
  have c1 : W1.cell? ⟨g, 1, none⟩ = some (.string r.ch) := K1.out.1.2.cell rfl
  have c2 : W1.cell? ⟨g, 2, none⟩ = some (.string r.pre) := K1.out.1.2.cell rfl
  have c3 : W1.cell? ⟨g, 3, none⟩ = some (iv r.right) := K1.out.1.2.cell rfl
  have c4 : W1.cell? ⟨g, 4, none⟩ = some (.bool r.deny) := K1.out.1.2.cell rfl
  go_enter Try.func13, Try.ntmps13
  go_wp2_with fail
  refine HR.mono ?_
  rintro e w1 ⟨rfl, hb1⟩
  have K2 : Hid (Kp w g 31 [.string r.who, .string r.ch, .string r.pre, iv r.right, .bool r.deny] w1 ∧ Kp w (g + 1) 25 [.string s.user, .slice s.ta s.tn s.tc, iv s.role] w1 ∧ Below W1.heap.size W1 w1) := ⟨K1.out.1.step hb1, K1.out.2.step hb1, hb1⟩
  clear HR hb1 hW1 c0 c1 c2 c3 c4
  have d1 : w1.cell? ⟨g, 1, none⟩ = some (.string r.ch) := K2.out.1.2.cell rfl
  have d2 : w1.cell? ⟨g, 2, none⟩ = some (.string r.pre) := K2.out.1.2.cell rfl
  have d3 : w1.cell? ⟨g, 3, none⟩ = some (iv r.right) := K2.out.1.2.cell rfl
  obtain ⟨e1, e2, e3, e4⟩ := HE.out
  cases b1
  · go_wp2
    go_ret
    exact ⟨by simp, K2.out.1.1⟩
  cases b2
  · go_wp2
    go_ret
    exact ⟨by simp, K2.out.1.1⟩
  cases b3
  · cases b4
    · go_wp2
      go_ret
      exact ⟨by simp, K2.out.1.1⟩
    · go_wp2_with fail
      refine (HCV _).mono ?_
      rintro e w3 ⟨rfl, hb3⟩
      have K3 : Hid (Kp w g 31 [.string r.who, .string r.ch, .string r.pre, iv r.right, .bool r.deny] w3 ∧ Kp w (g + 1) 25 [.string s.user, .slice s.ta s.tn s.tc, iv s.role] w3 ∧ Below W1.heap.size W1 w3) := ⟨K2.out.1.step hb3, K2.out.2.1.step hb3, K2.out.2.2.trans (hb3.mono K2.out.2.2.size)⟩
      have HMv := HM.out w3 K3.out.2.2
      clear d1 d2 d3 hb3
      have d0 : w3.cell? ⟨g, 0, none⟩ = some (.string r.who) := K3.out.1.2.cell rfl
      have f0 : w3.cell? ⟨g + 1, 0, none⟩ = some (.string s.user) := K3.out.2.1.2.cell rfl
      have f1 : w3.cell? ⟨g + 1, 1, none⟩ = some (.slice s.ta s.tn s.tc) := K3.out.2.1.2.cell rfl
      have f2 : w3.cell? ⟨g + 1, 2, none⟩ = some (iv s.role) := K3.out.2.1.2.cell rfl
      cases b5
      · go_wp2
        go_ret
        exact ⟨by simp, K3.out.1.1⟩
      · go_wp2_with (go_at_call 28; refine HMv.mono ?_; rintro e w4 ⟨rfl, hb4⟩)
        go_ret
        exact ⟨by simp, K3.out.1.1.trans (hb4.mono K3.out.1.1.size)⟩
  · go_wp2_with fail
    refine (HCV _).mono ?_
    rintro e w3 ⟨rfl, hb3⟩
    have K3 : Hid (Kp w g 31 [.string r.who, .string r.ch, .string r.pre, iv r.right, .bool r.deny] w3 ∧ Kp w (g + 1) 25 [.string s.user, .slice s.ta s.tn s.tc, iv s.role] w3 ∧ Below W1.heap.size W1 w3) := ⟨K2.out.1.step hb3, K2.out.2.1.step hb3, K2.out.2.2.trans (hb3.mono K2.out.2.2.size)⟩
    have HMv := HM.out w3 K3.out.2.2
    clear d1 d2 d3 hb3
    have d0 : w3.cell? ⟨g, 0, none⟩ = some (.string r.who) := K3.out.1.2.cell rfl
    have f0 : w3.cell? ⟨g + 1, 0, none⟩ = some (.string s.user) := K3.out.2.1.2.cell rfl
    have f1 : w3.cell? ⟨g + 1, 1, none⟩ = some (.slice s.ta s.tn s.tc) := K3.out.2.1.2.cell rfl
    have f2 : w3.cell? ⟨g + 1, 2, none⟩ = some (iv s.role) := K3.out.2.1.2.cell rfl
    cases b5
    · go_wp2
      go_ret
      exact ⟨by simp, K3.out.1.1⟩
    · go_wp2_with (go_at_call 28; refine HMv.mono ?_; rintro e w4 ⟨rfl, hb4⟩)
      go_ret
      exact ⟨by simp, K3.out.1.1.trans (hb4.mono K3.out.1.1.size)⟩
#print axioms matches_is
end Go.Proofs.Ytngkajeghmogmaa.Oct
