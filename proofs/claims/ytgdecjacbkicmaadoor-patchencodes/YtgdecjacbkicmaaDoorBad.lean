/-
  Layer 10 (patch): texts that are no lines.
-/
import Derived.Test.YtgdecjacbkicmaaDoorIdx
import Derived.Test.YtgdecjacbkicmaaDoorStrs
import Derived.Test.YtgdecjacbkicmaaDoorCut
namespace Go.Proofs.YtgdecjacbkicmaaDoor.Oct
open Go.RowKit
set_option maxRecDepth 100000
set_option linter.unusedSimpArgs false
set_option linter.unusedVariables false

set_option maxRecDepth 100000 in
theorem indexN_b (s : ByteArray) (x : Int) (hx : Lib.indexByte s.data.toList 10 = x) (w : World) : Calls Tryd.prog 86 #[.string s, .int .u8 10] w fun e w' => e = .returned (.int .i64 x) ∧ w = w' := by
  subst hx; exact indexB_is s 10 w

set_option maxRecDepth 100000 in
theorem indexN_x (s : ByteArray) (x : Int) (hx : Lib.indexByte s.data.toList 10 = x) (w : World) : Calls Tryd.prog 85 #[.string s, .string ⟨#[10]⟩] w fun e w' => e = .returned (.int .i64 x) ∧ w = w' := by
  by_cases h : s.data.toList = [10]
  · have e := of_list h
    subst e
    have e : x = 0 := by rw [← hx]; rfl
    subst e
    clear hx h
    go_enter Tryd.func85, Tryd.ntmps85
    go_wp2_with fail
    go_ret
    exact ⟨rfl, rfl⟩
  · have HX : Hid (Lib.indexByte s.data.toList 10 = x) := hx
    have e1 : (s.toList == [10]) = false := by rw [toList_is]; simpa using h
    have e2 : ([10] == s.toList) = false := by rw [toList_is]; simpa using fun e => h e.symm
    clear h hx
    go_enter Tryd.func85, Tryd.ntmps85
    go_wp2_with (go_at_call 86; refine (indexN_b s x HX.out _).mono ?_; rintro e w2 ⟨rfl, rfl⟩)
    go_ret
    exact ⟨rfl, rfl⟩
theorem idx_dec (l : List UInt8) (c : UInt8) (x : Int) (hx : Lib.indexByte l c = x) (B : Bool) (hB : decide (c ∈ l) = B) : decide (0 ≤ x) = B := by
  subst hx hB
  have hge := Lib.indexByte_ge l c
  by_cases h : 0 ≤ Lib.indexByte l c
  · rw [decide_eq_true h]
    obtain ⟨i, hi⟩ : ∃ i : Nat, Lib.indexByte l c = (i : Int) := ⟨(Lib.indexByte l c).toNat, by omega⟩
    obtain ⟨h1, h2, _⟩ := indexByte_some hi
    rw [eq_comm, decide_eq_true_eq, h2]
    simp
  · rw [decide_eq_false h]
    have := indexByte_none (l := l) (c := c) (by omega)
    rw [eq_comm, decide_eq_false this]
set_option maxHeartbeats 1000000 in
theorem containsN (s : BA) (M : Bool) (hM : decide ((10 : UInt8) ∈ s.data.toList) = M) (w : World) : Calls Tryd.prog 78 #[.string s, .string ⟨#[10]⟩] w fun e w' => e = .returned (.bool M) ∧ w = w' := by
  obtain ⟨x, hx⟩ : ∃ x, Lib.indexByte s.data.toList 10 = x := ⟨_, rfl⟩
  have hd := idx_dec _ _ x hx M hM
  have HX : Hid (Lib.indexByte s.data.toList 10 = x) := hx
  clear hx hM
  have C1 : Hid (∀ V, Calls Tryd.prog 83 #[.string s, .string ⟨#[10]⟩] V fun e V2 => e = .returned (iv x) ∧ V = V2) := by
    intro V
    go_enter Tryd.func83, Tryd.ntmps83
    go_wp2_with fail
    refine (indexN_x s x HX.out V).mono ?_
    rintro e V2 ⟨rfl, rfl⟩
    go_wp2
    go_ret
    exact ⟨rfl, rfl⟩
  go_enter Tryd.func78, Tryd.ntmps78
  go_wp2_with fail
  refine (C1.out w).mono ?_
  rintro e V2 ⟨rfl, rfl⟩
  go_wp2
  go_ret
  exact ⟨by first | rfl | rw [hd], rfl⟩
/-- no line of a patch -/
def bad (t : BA) : Bool := decide (200 < t.size) || decide ((10 : UInt8) ∈ t.data.toList)
set_option maxHeartbeats 1000000 in
theorem noLine_is (t : BA) (ht : t.size ≤ 140737488355328) (B : Bool) (hB : bad t = B) (w : World) : Calls Tryd.prog 63 #[.string t] w fun e w' => e = .returned (.bool B) ∧ w = w' := by
  obtain ⟨M, hM⟩ : ∃ M, decide ((10 : UInt8) ∈ t.data.toList) = M := ⟨_, rfl⟩
  have HM : Hid (decide ((10 : UInt8) ∈ t.data.toList) = M) := hM
  unfold bad at hB
  rw [hM] at hB
  have q0 : (t.size : Int) ≤ 140737488355328 := by omega
  clear hM ht
  by_cases h : 200 < t.size
  · have q1 : (200 : Int) < (t.size : Int) := by omega
    have g1 : decide ((200 : Int) < (t.size : Int)) = true := decide_eq_true q1
    rw [decide_eq_true h, Bool.true_or] at hB
    subst hB
    clear h
    go_enter Tryd.func63, Tryd.ntmps63
    go_wp2
    go_ret
    exact ⟨rfl, rfl⟩
  · have q1 : (t.size : Int) ≤ 200 := by omega
    have g1 : decide ((200 : Int) < (t.size : Int)) = false := decide_eq_false (by omega)
    rw [decide_eq_false h, Bool.false_or] at hB
    subst hB
    clear h
    go_enter Tryd.func63, Tryd.ntmps63
    go_wp2_with fail
    refine (containsN t M HM.out w).mono ?_
    rintro e V2 ⟨rfl, rfl⟩
    go_wp2
    go_ret
    exact ⟨rfl, rfl⟩
theorem any_none {l : List BA} (h : ∀ j x, j < l.length → l[j]? = some x → bad x = false) : l.any bad = false := by
  rw [List.any_eq_false]
  intro x hx
  obtain ⟨j, hj, rfl⟩ := List.mem_iff_getElem.1 hx
  rw [h j _ hj (List.getElem?_eq_getElem hj)]
  simp
set_option maxHeartbeats 1000000 in
theorem idxFunc_is (w : World) (a : Option Addr) (n c : Nat) (ts : List BA) (h : Strs w a n ts) (hs : ∀ t ∈ ts, t.size ≤ 140737488355328) (hn : n ≤ 140737488355328) (B : Bool) (hB : ts.any bad = B) :
    Calls Tryd.prog 77 #[.slice a n c, .func (.func 63) #[] #[]] w fun e w' => ∃ P, e = .returned (iv P) ∧ Hid (decide (0 ≤ P) = B) ∧ Below w.heap.size w w' := by
  have HS : Hid (Strs w a n ts ∧ (∀ t ∈ ts, t.size ≤ 140737488355328) ∧ ts.any bad = B) := ⟨h, hs, hB⟩
  have qn : (n : Int) ≤ 140737488355328 := by omega
  clear h hs hB hn
  go_enter Tryd.func77, Tryd.ntmps77
  go_wp2
  go_loopw [8] (fun u wr => ∃ i : Nat, u = iv (i : Int) ∧ (i : Int) ≤ (n : Int) ∧ Hid ((∀ j x, j < i → ts[j]? = some x → bad x = false) ∧ Below w.heap.size w wr)) (fun u _ => n - (intOf u).toNat)
  case atStart => exact ⟨0, rfl, by omega, (fun j x hj => absurd hj (by omega)), Below.refl _ _⟩
  case round =>
    obtain ⟨V, hV⟩ : ∃ V, V = wr := ⟨_, rfl⟩
    subst hV
    obtain ⟨i, rfl, qi, HI⟩ := hrel
    by_cases hi : i < n
    · obtain ⟨x, hx⟩ : ∃ x, ts[i]? = some x := ⟨_, List.getElem?_eq_getElem (by rw [HS.out.1.1]; exact hi)⟩
      obtain ⟨g, off, rfl, hg, hel⟩ := HS.out.1.2 (by omega)
      have c1 : V.cell? ⟨g, off + i, none⟩ = some (.string x) := (HI.out.2.cell (p := ⟨g, off + i, none⟩) hg).trans (hel i x hx)
      have HX : Hid (i < n ∧ ts[i]? = some x ∧ x.size ≤ 140737488355328) := ⟨hi, hx, HS.out.2.1 x (List.mem_of_getElem? hx)⟩
      have q1 : (i : Int) < (n : Int) := by omega
      obtain ⟨Bx, hBx⟩ : ∃ B, bad x = B := ⟨_, rfl⟩
      have HBx : Hid (bad x = Bx) := hBx
      clear hel hx hg hi hBx qi
      go_wp2_with fail
      refine (noLine_is x HX.out.2.2 Bx HBx.out V).mono ?_
      rintro e V2 ⟨rfl, rfl⟩
      cases Bx with
      | true =>
        have HF : Hid (B = true) := by
          show _ = _
          rw [← HS.out.2.2, List.any_eq_true]
          exact ⟨x, List.mem_of_getElem? HX.out.2.1, HBx.out⟩
        have hBt := HF.out
        subst hBt
        clear HF HBx
        go_wp2
        go_ret
        exact ⟨_, rfl, (show decide (0 ≤ (i : Int)) = true by simp), HI.out.2⟩
      | false =>
        have HN : Hid (∀ j y, j < i + 1 → ts[j]? = some y → bad y = false) := by
          intro j y hj hy
          by_cases hji : j = i
          · subst hji; rw [HX.out.2.1] at hy; cases hy; exact HBx.out
          · exact HI.out.1 j y (by omega) hy
        have HI1 : Hid (i < n ∧ Below w.heap.size w V) := ⟨HX.out.1, HI.out.2⟩
        clear HBx HI
        go_wp2
        go_roundw
        case rel => exact ⟨i + 1, by simp, by have := HI1.out.1; omega, HN.out, HI1.out.2⟩
        case measure => have := HI1.out.1; simp only [intOf]; omega
    · have q1 : (n : Int) ≤ (i : Int) := by omega
      have HF : Hid (B = false) := by
        show _ = _
        rw [← HS.out.2.2]
        exact any_none fun j x hj hx => HI.out.1 j x (by rw [HS.out.1.1] at hj; omega) hx
      have hBf := HF.out
      subst hBf
      clear HF hi
      go_wp2
      go_ret
      exact ⟨_, rfl, rfl, HI.out.2⟩
set_option maxHeartbeats 1000000 in
theorem anyBad_is (w : World) (a : Option Addr) (n c : Nat) (ts : List BA) (h : Strs w a n ts) (hs : ∀ t ∈ ts, t.size ≤ 140737488355328) (hn : n ≤ 140737488355328) (B : Bool) (hB : ts.any bad = B) :
    Calls Tryd.prog 62 #[.slice a n c, .func (.func 63) #[] #[]] w fun e w' => e = .returned (.bool B) ∧ Below w.heap.size w w' := by
  have HS : Hid (Calls Tryd.prog 77 #[.slice a n c, .func (.func 63) #[] #[]] w fun e w' => ∃ P, e = .returned (iv P) ∧ Hid (decide (0 ≤ P) = B) ∧ Below w.heap.size w w') := idxFunc_is w a n c ts h hs hn B hB
  clear h hs hn hB
  go_enter Tryd.func62, Tryd.ntmps62
  go_wp2_with fail
  refine HS.out.mono ?_
  rintro e V ⟨P, rfl, hP, hb⟩
  have hP' := hP.out
  go_wp2
  go_ret
  exact ⟨by first | rfl | rw [hP'], hb⟩
end Go.Proofs.YtgdecjacbkicmaaDoor.Oct
