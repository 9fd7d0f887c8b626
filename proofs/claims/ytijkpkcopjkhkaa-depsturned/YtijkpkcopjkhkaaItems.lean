/-
  Layer 12 (deps): items; isLong, light.
-/
import Derived.Test.YtijkpkcopjkhkaaPlace
namespace Go.Proofs.Ytijkpkcopjkhkaa.Oct
open Go.RowKit

/-- an item: its name, what it needs, and the slice that says so -/
structure It where
  name : Hs
  deps : List Hs
  a : Option Addr
  n : Nat
  c : Nat
def It.cells (x : It) : List Value := U x.name ++ [.slice x.a x.n x.c]
theorem It.cells_length (x : It) (h : x.name.length = 32) : x.cells.length = 33 := by simp [It.cells, U_length, h]
/-- an item at a place -/
def ItAt (w : World) (b o : Nat) (x : It) : Prop := x.name.length = 32 ∧ w.rangeAt b o x.cells ∧ HsR w x.a x.n x.deps ∧ x.n ≤ x.c ∧ x.n ≤ 140737488355328
/-- items among what came in, or made -/
def Its (w : World) (a : Option Addr) (len : Nat) (l : List It) : Prop :=
  l.length = len ∧ (0 < len → ∃ b off, a = some ⟨b, off, none⟩ ∧ b < w.heap.size ∧ ∀ i x, l[i]? = some x → ItAt w b (off + i * 33) x)
theorem ItAt.below {w w' : World} {b o : Nat} {x : It} (h : ItAt w b o x) (hb : Below w.heap.size w w') (hl : b < w.heap.size) : ItAt w' b o x :=
  ⟨h.1, rangeAt_same h.2.1 (hb.block b hl), h.2.2.1.below hb, h.2.2.2⟩
theorem Its.below {w w' : World} {a : Option Addr} {len : Nat} {l : List It} (h : Its w a len l) (hb : Below w.heap.size w w') : Its w' a len l := by
  refine ⟨h.1, fun hp => ?_⟩
  obtain ⟨b, off, e, h1, h2⟩ := h.2 hp
  exact ⟨b, off, e, Nat.lt_of_lt_of_le h1 hb.size, fun i x hx => (h2 i x hx).below hb h1⟩
theorem ItAt.dep {w : World} {b o : Nat} {x : It} (h : ItAt w b o x) : w.cell? ⟨b, o + 32, none⟩ = some (.slice x.a x.n x.c) := by
  have := h.2.1 32 (.slice x.a x.n x.c) (by simp [It.cells, U_length, h.1])
  exact this
theorem ItAt.nm {w : World} {b o : Nat} {x : It} (h : ItAt w b o x) : w.rangeAt b o (U x.name) := by
  intro j v hj
  refine h.2.1 j v ?_
  have hlt := (List.getElem?_eq_some_iff.1 hj).1
  unfold It.cells
  rw [List.getElem?_append_left hlt]; exact hj
theorem Its.name {w : World} {a : Option Addr} {len : Nat} {l : List It} (h : Its w a len l) : ∀ x ∈ l, x.name.length = 32 ∧ x.deps.length = x.n ∧ ∀ d ∈ x.deps, d.length = 32 := by
  intro x hx
  obtain ⟨i, hi, rfl⟩ := List.mem_iff_getElem.1 hx
  obtain ⟨b, off, _, _, h2⟩ := h.2 (by rw [← h.1]; omega)
  have := h2 i _ (List.getElem?_eq_getElem hi)
  exact ⟨this.1, this.2.2.1.1, this.2.2.1.2.1⟩

theorem isLong_is (w : World) (a : Option Addr) (n c : Nat) : Calls Try.prog 23 #[.slice a n c] w fun e w' => e = .returned (.bool (decide (256 < n))) ∧ w = w' := by
  by_cases h : 256 < n
  · have q : (256 : Int) < (n : Int) := by omega
    go_enter Try.func23, Try.ntmps23
    go_wp2
    go_ret
    exact ⟨by simp [h], rfl⟩
  · have q : ¬ (256 : Int) < (n : Int) := by omega
    go_enter Try.func23, Try.ntmps23
    go_wp2
    go_ret
    exact ⟨by simp, rfl⟩
#print axioms isLong_is

/-- how many hashes are needed in all -/
def many (l : List It) : Nat := (l.map (·.deps.length)).sum
theorem many_take (l : List It) (i : Nat) (x : It) (h : l[i]? = some x) : many (l.take (i + 1)) = many (l.take i) + x.deps.length := by
  unfold many
  rw [List.take_add_one, h, List.map_append, List.sum_append]; simp
def LightP (w : World) (len : Nat) (l : List It) (e : Ending) (w' : World) : Prop := ∃ b : Bool, e = .returned (.bool b) ∧ Hid (b = true → len ≤ 300 ∧ many l ≤ 400) ∧ w = w'

set_option maxRecDepth 100000 in
set_option maxHeartbeats 1000000 in
theorem light_is (w : World) (a : Option Addr) (len cap : Nat) (l : List It) (h : Its w a len l) (hc : len ≤ cap ∧ cap ≤ maxLen) :
    Calls Try.prog 8 #[.slice a len cap] w (LightP w len l) := by
  have HA : Hid (Its w a len l) := h
  have q5 : (len : Int) ≤ 9223372036854775807 := by have h1 := hc.1; have h2 := hc.2; unfold maxLen at h2; omega
  clear h hc
  go_enter Try.func8, Try.ntmps8
  go_wp2
  go_loop [7, 3] (fun u s => ∃ i : Nat, u = .int .i64 (i : Int) ∧ s = .int .i64 ((many (l.take i) : Nat) : Int) ∧ Hid (i ≤ len ∧ many (l.take i) ≤ 400)) (fun u _ => len - (intOf u).toNat)
  case atStart => exact ⟨0, rfl, by simp [many], ⟨Nat.zero_le _, by simp [many]⟩⟩
  case round =>
    obtain ⟨i, rfl, rfl, HI⟩ := hrel
    by_cases hi : i < len
    · obtain ⟨x, hx⟩ : ∃ x, l[i]? = some x := ⟨_, List.getElem?_eq_getElem (by rw [HA.out.1]; exact hi)⟩
      obtain ⟨b, off, rfl, hb, hel⟩ := HA.out.2 (by omega)
      have c1 := (hel i x hx).dep
      have hn := (hel i x hx).2.2.1.1
      have hxc := (hel i x hx).2.2.2
      have HM : Hid (many (l.take (i + 1)) = many (l.take i) + x.deps.length) := many_take l i x hx
      have HX : Hid (i < len ∧ x.deps.length = x.n) := ⟨hi, hn⟩
      have q1 : (i : Int) < (len : Int) := by omega
      have q2 : ((many (l.take i) : Nat) : Int) ≤ 400 := by have := HI.out; omega
      have q3 : (x.n : Int) ≤ 140737488355328 := by have h2 := hxc.2; omega
      clear hel hx hi hn hxc
      obtain ⟨xn, dp, xa, xnn, xc⟩ := x
      dsimp only at c1 q3 HM HX
      obtain ⟨M, hM⟩ : ∃ M, many (l.take i) = M := ⟨_, rfl⟩
      rw [hM] at HM q2
      rw [hM]
      by_cases hs : M + xnn ≤ 400
      · have q6 : ¬ 400 < (M : Int) + (xnn : Int) := by omega
        have HS : Hid (M + xnn ≤ 400 ∧ many (l.take i) = M) := ⟨hs, hM⟩
        clear hM hs
        go_wp2
        go_round
        case rel =>
          refine ⟨i + 1, by simp, ?_, ⟨HX.out.1, ?_⟩⟩
          · rw [HM.out, HX.out.2]; simp
          · rw [HM.out, HX.out.2]; exact HS.out.1
        case measure => have := HX.out; simp [intOf]; omega
      · have q6 : 400 < (M : Int) + (xnn : Int) := by omega
        clear hM hs
        go_wp2
        go_ret
        exact ⟨false, rfl, (fun h => by cases h), rfl⟩
    · have q1 : ¬ (i : Int) < (len : Int) := by omega
      have HE : Hid (many l ≤ 400) := by
        show _ ≤ _
        have h1 := HI.out.2
        rw [List.take_of_length_le (by rw [HA.out.1]; omega)] at h1
        exact h1
      by_cases h3 : len ≤ 300
      · have q7 : (len : Int) ≤ 300 := by omega
        go_wp2
        go_ret
        exact ⟨true, rfl, fun _ => ⟨h3, HE.out⟩, rfl⟩
      · have q7 : ¬ (len : Int) ≤ 300 := by omega
        go_wp2
        go_ret
        exact ⟨false, rfl, (fun h => by cases h), rfl⟩
#print axioms light_is
end Go.Proofs.Ytijkpkcopjkhkaa.Oct
