/-
  Layer 17 (acl): who is meant; which rules may be.
-/
import Derived.Test.YtngkajeghmogmaaStrsView
import Derived.Test.YtngkajeghmogmaaRow
import Derived.WalkSpells
import Derived.WalkLawsBesides
import Derived.BigQuiet
namespace Go.Proofs.Ytngkajeghmogmaa.Oct
open Go.RowKit Go.Shelf

abbrev iv (n : Int) : Value := .int .i64 n
abbrev BA := ByteArray
def kindOf (s : BA) : BA := s.extract 0 (min s.size 2)
def nameOf (s : BA) : BA := s.extract (min s.size 2) s.size
theorem below_al (w : World) (o : Obj) : Below w.heap.size w (w.alloc o) := (Below.refl _ w).alloc (Nat.le_refl _) o
set_option maxRecDepth 100000 in
theorem split_is (s : BA) (w : World) : Calls Try.prog 38 #[.string s] w fun e w' => e = .returned (.tuple #[.string (kindOf s), .string (nameOf s)]) ∧ Below w.heap.size w w' := by
  unfold kindOf nameOf
  by_cases h : s.size ≤ 2
  · rw [Nat.min_eq_left h]
    have q1 : min (s.size : Int) 2 = (s.size : Int) := by omega
    go_enter Try.func38, Try.ntmps38
    go_wp2
    go_quiet (fail)
    go_wp2
    go_ret2
    exact ⟨by simp, below_drewN _ _ _⟩
  · rw [Nat.min_eq_right (by omega)]
    have q1 : min (s.size : Int) 2 = 2 := by omega
    have q2 : 2 ≤ s.size := by omega
    have q3 : (2 : Int) ≤ (s.size : Int) := by omega
    go_enter Try.func38, Try.ntmps38
    go_wp2
    go_quiet (fail)
    go_wp2
    go_ret2
    exact ⟨rfl, below_drewN _ _ _⟩
theorem name_size (s : BA) : (nameOf s).size ≤ s.size := by unfold nameOf; simp [ByteArray.size_extract]
def whoOk (s : BA) : Bool := (kindOf s).toList == [42] || (((kindOf s).toList == [117, 58] || (kindOf s).toList == [116, 58]) && isName (nameOf s).data.toList)
set_option maxRecDepth 100000 in
theorem isWho_is (s : BA) (hs : s.size ≤ 140737488355328) (w : World) : Calls Try.prog 23 #[.string s] w fun e w' => e = .returned (.bool (whoOk s)) ∧ Below w.heap.size w w' := by
  have HS := split_is s w
  have HN := fun W => name_is (nameOf s) W (Nat.le_trans (name_size s) hs)
  unfold whoOk
  generalize kindOf s = k at *
  generalize nameOf s = nm at *
  generalize isName nm.data.toList = b at HN ⊢
  cases h1 : (k.toList == [42])
  · cases h2 : (k.toList == [117, 58])
    · cases h3 : (k.toList == [116, 58])
      · go_enter Try.func23, Try.ntmps23
        go_wp2_with (go_at_call 38; refine HS.mono ?_; rintro e w1 ⟨rfl, hb⟩)
        go_ret
        exact ⟨rfl, hb⟩
      · go_enter Try.func23, Try.ntmps23
        go_wp2_with (first | (go_at_call 38; refine HS.mono ?_; rintro e w1 ⟨rfl, hb⟩) | (go_at_call 24; refine (HN _).mono ?_; rintro e w2 ⟨rfl, rfl⟩))
        go_ret
        exact ⟨by simp, hb⟩
    · go_enter Try.func23, Try.ntmps23
      go_wp2_with (first | (go_at_call 38; refine HS.mono ?_; rintro e w1 ⟨rfl, hb⟩) | (go_at_call 24; refine (HN _).mono ?_; rintro e w2 ⟨rfl, rfl⟩))
      go_ret
      exact ⟨by simp, hb⟩
  · go_enter Try.func23, Try.ntmps23
    go_wp2_with (go_at_call 38; refine HS.mono ?_; rintro e w1 ⟨rfl, hb⟩)
    go_ret
    exact ⟨by simp, hb⟩
#print axioms isWho_is
def rightOk (n : Int) : Bool := n == 1 || n == 2
theorem isRight_is (n : Int) (w : World) : Calls Try.prog 25 #[iv n] w fun e w' => e = .returned (.bool (rightOk n)) ∧ w = w' := by
  unfold rightOk
  cases h1 : (n == 1)
  · cases h2 : (n == 2)
    · go_enter Try.func25, Try.ntmps25
      go_wp2
      go_ret
      exact ⟨rfl, rfl⟩
    · go_enter Try.func25, Try.ntmps25
      go_wp2
      go_ret
      exact ⟨rfl, rfl⟩
  · go_enter Try.func25, Try.ntmps25
    go_wp2
    go_ret
    exact ⟨rfl, rfl⟩
#print axioms isRight_is
/-- is a text among these? -/
def among (v : BA) (l : List BA) : Bool := l.any fun x => v.toList == x.toList
set_option maxRecDepth 100000 in
theorem index_is (v : BA) (l : List BA) (a : Option Addr) (n cp : Nat) (w : World) (hl : Strs w a n l) (hn : n ≤ 140737488355328) :
    Calls Try.prog 56 #[.slice a n cp, .string v] w fun e w' => ∃ k : Int, e = .returned (iv k) ∧ (decide (0 ≤ k)) = among v l ∧ w = w' := by
  have HL : Hid (Strs w a n l) := hl
  have qn : (n : Int) ≤ 140737488355328 := by omega
  clear hl hn
  go_enter Try.func56, Try.ntmps56
  go_wp2
  go_loopw [8] (fun u wr => ∃ i : Nat, u = iv i ∧ Hid (i ≤ n ∧ among v (l.take i) = false ∧ w = wr)) (fun u _ => n - (intOf u).toNat)
  case atStart => exact ⟨0, rfl, Nat.zero_le _, rfl, rfl⟩
  case round =>
    obtain ⟨i, rfl, HI⟩ := hrel
    obtain ⟨h1, h2, rfl⟩ := HI.out
    by_cases hi : i = n
    · have q1 : (n : Int) ≤ (i : Int) := by omega
      have HF : Hid (among v l = false) := by
        show _ = _
        rw [hi, ← HL.out.1, List.take_length] at h2
        exact h2
      clear h1 h2 hi HI
      go_wp2
      go_ret
      exact ⟨-1, rfl, by rw [HF.out]; rfl, rfl⟩
    · have q1 : (i : Int) < (n : Int) := by omega
      have HI2 : Hid (i < n) := by show _ < _; omega
      obtain ⟨b, off, ha, _, hc⟩ := HL.out.2 (by omega)
      subst ha
      obtain ⟨x, hx⟩ : ∃ x, l[i]? = some x := ⟨_, List.getElem?_eq_getElem (by rw [HL.out.1]; omega)⟩
      have c0 := hc i x hx
      have HX : Hid (l[i]? = some x) := hx
      clear h1 hi hx hc
      cases he : (v.toList == x.toList)
      · have HN : Hid (among v (l.take (i + 1)) = false) := by
          show _ = _
          rw [List.take_add_one, HX.out]
          unfold among at *
          rw [List.any_append, h2]
          simpa using he
        clear h2 HI
        go_wp2
        refine ⟨⟨i + 1, by simp, HI2.out, HN.out, by first | rfl | trivial⟩, ?_⟩
        have := HI2.out
        simp only [intOf]
        omega
      · have HY : Hid (among v l = true) := by
          show _ = _
          unfold among
          rw [List.any_eq_true]
          exact ⟨x, List.mem_of_getElem? HX.out, he⟩
        clear h2 HI
        go_wp2
        go_ret
        exact ⟨(i : Int), rfl, by rw [HY.out]; simp, rfl⟩
theorem contains_is (v : BA) (l : List BA) (a : Option Addr) (n cp : Nat) (w : World) (hl : Strs w a n l) (hn : n ≤ 140737488355328) :
    Calls Try.prog 45 #[.slice a n cp, .string v] w fun e w' => e = .returned (.bool (among v l)) ∧ w = w' := by
  have HI := index_is v l a n cp w hl hn
  clear hl hn
  go_enter Try.func45, Try.ntmps45
  go_wp2_with fail
  refine HI.mono ?_
  rintro e w1 ⟨k, rfl, hk, rfl⟩
  have HK : Hid (decide (0 ≤ k) = among v l) := hk
  clear HI hk
  go_wp2
  go_ret
  exact ⟨by rw [← HK.out]; rfl, rfl⟩
#print axioms contains_is
end Go.Proofs.Ytngkajeghmogmaa.Oct
