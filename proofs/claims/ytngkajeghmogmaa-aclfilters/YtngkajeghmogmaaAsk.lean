/-
  Layer 17 (acl): what is asked: decide, light.
-/
import Derived.Test.YtngkajeghmogmaaLives
namespace Go.Proofs.Ytngkajeghmogmaa.Oct
open Go.RowKit Go.Shelf

/-- what is asked -/
structure Ak where
  s : Sj
  ch : BA
  path : BA
  right : Int
abbrev av (k : Ak) : Value := .agg #[.string k.s.user, .slice k.s.ta k.s.tn k.s.tc, iv k.s.role, .string k.ch, .string k.path, iv k.right]
def Ak.at (k : Ak) (w : World) : Prop := k.s.at w ∧ k.path.size ≤ 140737488355328 ∧ k.ch.size ≤ 140737488355328 ∧ k.s.user.size ≤ 140737488355328
theorem Ak.at.below {k : Ak} {w w' : World} (h : k.at w) (hb : Below w.heap.size w w') : k.at w' := ⟨h.1.below hb, h.2⟩
def dec (l : List Ru) (k : Ak) : Bool := decB l k.s k.ch k.path k.right
set_option maxRecDepth 100000 in
theorem dec_is (l : List Ru) (a : Option Addr) (n cp : Nat) (k : Ak) (w : World) (hl : RuS w a n l) (hn : n ≤ 2199023255551) (hk : k.at w) :
    Calls Try.prog 15 #[.slice a n cp, av k] w fun e w' => e = .returned (.bool (dec l k)) ∧ Below w.heap.size w w' := by
  obtain ⟨W1, hW1⟩ : ∃ W1, w.alloc (.cells #[.string k.s.user, .slice k.s.ta k.s.tn k.s.tc, iv k.s.role, .string k.ch, .string k.path, iv k.right] 27) = W1 := ⟨_, rfl⟩
  obtain ⟨g, hg⟩ : ∃ g, w.heap.size = g := ⟨_, rfl⟩
  have K1 : Hid (Kp w g 27 [.string k.s.user, .slice k.s.ta k.s.tn k.s.tc, iv k.s.role, .string k.ch, .string k.path, iv k.right] W1) := by rw [← hW1, ← hg]; exact Kp.new w _ 27
  have HD := decide_is l a n cp k.s k.ch k.path k.right W1 (hl.below K1.out.1) hn (hk.1.below K1.out.1) hk.2.1
  unfold dec
  generalize decB l k.s k.ch k.path k.right = m at HD ⊢
  have c0 : W1.cell? ⟨g, 0, none⟩ = some (.string k.s.user) := K1.out.2.cell rfl
  have c1 : W1.cell? ⟨g, 1, none⟩ = some (.slice k.s.ta k.s.tn k.s.tc) := K1.out.2.cell rfl
  have c2 : W1.cell? ⟨g, 2, none⟩ = some (iv k.s.role) := K1.out.2.cell rfl
  have c3 : W1.cell? ⟨g, 3, none⟩ = some (.string k.ch) := K1.out.2.cell rfl
  have c4 : W1.cell? ⟨g, 4, none⟩ = some (.string k.path) := K1.out.2.cell rfl
  have c5 : W1.cell? ⟨g, 5, none⟩ = some (iv k.right) := K1.out.2.cell rfl
  clear hl hn hk
  go_enter Try.func15, Try.ntmps15
  go_wp2_with fail
  refine HD.mono ?_
  rintro e w1 ⟨rfl, hb1⟩
  have HB1 : Hid (Below w.heap.size w w1) := K1.out.1.trans (hb1.mono K1.out.1.size)
  clear HD hb1 hW1 hg
  go_wp2
  go_ret
  exact ⟨rfl, HB1.out⟩
#print axioms dec_is
set_option maxRecDepth 100000 in
set_option maxHeartbeats 2000000 in
theorem light_is (l : List Ru) (a : Option Addr) (n cp : Nat) (k : Ak) (w : World) (hl : RuS w a n l) (hn : n ≤ 2199023255552) (hk : k.at w) :
    Calls Try.prog 9 #[.slice a n cp, av k] w fun e w' => ∃ b, e = .returned (.bool b) ∧ Below w.heap.size w w' := by
  obtain ⟨W1, hW1⟩ : ∃ W1, w.alloc (.cells #[.string k.s.user, .slice k.s.ta k.s.tn k.s.tc, iv k.s.role, .string k.ch, .string k.path, iv k.right] 27) = W1 := ⟨_, rfl⟩
  obtain ⟨g, hg⟩ : ∃ g, w.heap.size = g := ⟨_, rfl⟩
  have K1 : Hid (Kp w g 27 [.string k.s.user, .slice k.s.ta k.s.tn k.s.tc, iv k.s.role, .string k.ch, .string k.path, iv k.right] W1) := by rw [← hW1, ← hg]; exact Kp.new w _ 27
  have HL1 : Hid (RuS W1 a n l ∧ k.s.at W1) := ⟨hl.below K1.out.1, hk.1.below K1.out.1⟩
  have qn : (n : Int) ≤ 2199023255552 := by omega
  have c0 : W1.cell? ⟨g, 0, none⟩ = some (.string k.s.user) := K1.out.2.cell rfl
  have c1 : W1.cell? ⟨g, 1, none⟩ = some (.slice k.s.ta k.s.tn k.s.tc) := K1.out.2.cell rfl
  have c3 : W1.cell? ⟨g, 3, none⟩ = some (.string k.ch) := K1.out.2.cell rfl
  have c4 : W1.cell? ⟨g, 4, none⟩ = some (.string k.path) := K1.out.2.cell rfl
  have qt : (k.s.tn : Int) ≤ 140737488355328 := by have := hk.1.2; omega
  clear hl hn hk
  obtain ⟨⟨user, ta, tn, tc, role, teams⟩, ch, path, right⟩ := k
  dsimp only at *
  go_enter Try.func9, Try.ntmps9
  go_wp2
  clear hW1 hg
  go_loopw [26, 5] (fun u v wr => ∃ (i : Nat) (N : Int), u = iv i ∧ v = iv N ∧ Hid (i ≤ tn ∧ W1 = wr)) (fun u _ _ => tn - (intOf u).toNat)
  case atStart => exact ⟨0, _, rfl, rfl, Nat.zero_le _, rfl⟩
  case round =>
    obtain ⟨i, N, rfl, rfl, HI⟩ := hrel
    obtain ⟨hi0, rfl⟩ := HI.out
    by_cases hi : i = tn
    · have q1 : (tn : Int) ≤ (i : Int) := by omega
      clear hi0 hi HI c0 c1 c3 c4
      go_wp2
      go_loopw [38, 5] (fun u v wr => ∃ (i : Nat) (N : Int), u = iv i ∧ v = iv N ∧ Hid (i ≤ n ∧ Below W1.heap.size W1 wr)) (fun u _ _ => n - (intOf u).toNat)
      case atStart => exact ⟨0, _, rfl, rfl, Nat.zero_le _, Below.refl _ _⟩
      case round =>
        obtain ⟨j, N2, rfl, rfl, HJ⟩ := hrel
        have HBW : Hid (Below w.heap.size w wr) := K1.out.1.trans (HJ.out.2.mono K1.out.1.size)
        by_cases hj : j = n
        · have q2 : (n : Int) ≤ (j : Int) := by omega
          clear hj HJ
          go_wp2
          go_ret
          exact ⟨_, rfl, HBW.out⟩
        · have q2 : (j : Int) < (n : Int) := by have := HJ.out.1; omega
          have HJ2 : Hid (j < n) := by show _ < _; have := HJ.out.1; omega
          obtain ⟨b, off, ha, hbl, hc⟩ := HL1.out.1.2.2 (by have := HJ2.out; omega)
          subst ha
          obtain ⟨r, hr⟩ : ∃ r, l[j]? = some r := ⟨_, List.getElem?_eq_getElem (by rw [HL1.out.1.1]; exact HJ2.out)⟩
          have hcr : wr.rangeAt b (off + j * 5) r.cells := fun t v ht => (HJ.out.2.cell (p := ⟨b, off + j * 5 + t, none⟩) hbl).trans (hc j r hr t v ht)
          obtain ⟨d0, d1, d2, d3, d4⟩ := ru_at hcr
          have HB3 : Hid (∀ o, Below W1.heap.size W1 (wr.alloc o) ∧ Below w.heap.size w (wr.alloc o)) := fun o => ⟨HJ.out.2.trans ((below_al wr o).mono HJ.out.2.size), HBW.out.trans ((below_al wr o).mono HBW.out.size)⟩
          clear hj hc hr hcr HJ
          go_wp2
          · go_ret
            exact ⟨_, rfl, (HB3.out _).2⟩
          · refine ⟨⟨j + 1, _, by simp, rfl, HJ2.out, (HB3.out _).1⟩, ?_⟩
            have := HJ2.out
            simp only [intOf]
            omega
    · have q1 : (i : Int) < (tn : Int) := by omega
      have HI2 : Hid (i < tn) := by show _ < _; omega
      obtain ⟨b, off, ha, _, hc⟩ := HL1.out.2.1.2 (by have := HI2.out; show 0 < tn; omega)
      dsimp only at ha
      subst ha
      obtain ⟨x, hx⟩ : ∃ x, teams[i]? = some x := ⟨_, List.getElem?_eq_getElem (by have := HL1.out.2.1.1; have := HI2.out; show i < teams.length; dsimp only at *; omega)⟩
      have cx := hc i x hx
      clear hi hc hx hi0 HI
      go_wp2
      refine ⟨⟨i + 1, _, by simp, rfl, HI2.out, by first | rfl | trivial⟩, ?_⟩
      have := HI2.out
      simp only [intOf]
      omega
#print axioms light_is
end Go.Proofs.Ytngkajeghmogmaa.Oct
