/-
  Layer 9 (names): 'Longest', and the chapter's examples.
-/
import Derived.Test.YthhdogokigpieaaCovers
namespace Go.Proofs.Ythhdogokigpieaa.Oct
open Go.RowKit Go.Shelf

/-- texts that are read: a slice's elements are l -/
def Strs (w : World) (a : Option Addr) (n : Nat) (l : List ByteArray) : Prop :=
  l.length = n ∧ (0 < n → ∃ b off, a = some ⟨b, off, none⟩ ∧ b < w.heap.size ∧ ∀ i x, l[i]? = some x → w.cell? ⟨b, off + i, none⟩ = some (.string x))
theorem Strs.below {w w' : World} {a : Option Addr} {n : Nat} {l : List ByteArray} (h : Strs w a n l) (hb : Below w.heap.size w w') : Strs w' a n l := by
  refine ⟨h.1, fun hp => ?_⟩
  obtain ⟨b, off, e1, e2, e3⟩ := h.2 hp
  exact ⟨b, off, e1, Nat.lt_of_lt_of_le e2 hb.size, fun i c hc => (hb.cell (p := ⟨b, off + i, none⟩) e2).trans (e3 i c hc)⟩

/-- the place and the length of the longest prefix among the first t -/
def lngAt (l : List ByteArray) (s : ByteArray) : Nat → Int × Int
  | 0 => (-1, -1)
  | t + 1 => match l[t]? with
    | none => lngAt l s t
    | some x => if (lngAt l s t).2 < (x.size : Int) ∧ cov x s = true then ((t : Int), (x.size : Int)) else lngAt l s t
theorem lngAt_yes {l : List ByteArray} {s x : ByteArray} {t : Nat} {f m : Int} (h : lngAt l s t = (f, m)) (hx : l[t]? = some x) (h1 : m < (x.size : Int)) (h2 : cov x s = true) : lngAt l s (t + 1) = ((t : Int), (x.size : Int)) := by
  simp only [lngAt, hx, h]; rw [if_pos ⟨h1, h2⟩]
theorem lngAt_no {l : List ByteArray} {s x : ByteArray} {t : Nat} {f m : Int} (h : lngAt l s t = (f, m)) (hx : l[t]? = some x) (h1 : ¬ (m < (x.size : Int) ∧ cov x s = true)) : lngAt l s (t + 1) = (f, m) := by
  simp only [lngAt, hx, h]; rw [if_neg h1]

set_option maxRecDepth 100000 in
set_option maxHeartbeats 2000000 in
theorem longest_is (l : List ByteArray) (s : ByteArray) (a : Option Addr) (n cp : Nat) (w : World) (hl : Strs w a n l) (hs : s.size ≤ 140737488355328) (hn : n ≤ 140737488355328) :
    Calls Try.prog 19 #[.slice a n cp, .string s] w fun e w' => e = .returned (.int .i64 (lngAt l s n).1) ∧ Below w.heap.size w w' := by
  have HS : Hid (s.size ≤ 140737488355328) := hs
  have HL : Hid (Strs w a n l) := hl
  have HB0 : Hid (Below w.heap.size w w) := Below.refl _ _
  clear hs hl
  go_enter Try.func19, Try.ntmps19
  go_wp2_with fail
  go_loopw [5, 6, 11] (fun u v i wr => ∃ (t : Nat) (f m : Int), u = .int .i64 f ∧ v = .int .i64 m ∧ i = .int .i64 (t : Int) ∧ t ≤ n ∧ Hid (lngAt l s t = (f, m)) ∧ Hid (Below w.heap.size w wr)) (fun _ _ i _ => n - (intOf i).toNat)
  case atStart => exact ⟨0, -1, -1, rfl, rfl, rfl, by omega, rfl, HB0⟩
  case round =>
    obtain ⟨t, f, m, rfl, rfl, rfl, ht, hat, hb⟩ := hrel
    by_cases hlt : t = n
    · subst hlt
      go_wp2_with fail
      go_ret
      exact ⟨by rw [hat.out]; rfl, hb.out⟩
    · have q1 : (t : Int) < (n : Int) := by omega
      have HT : Hid (t < n) := by show t < n; omega
      obtain ⟨b, off, rfl, hbs, hcell⟩ := HL.out.2 (by omega)
      have htl : t < l.length := by rw [HL.out.1]; omega
      obtain ⟨x, hx⟩ : ∃ x, l[t]? = some x := ⟨l[t], by simp [htl]⟩
      have HX : Hid (l[t]? = some x) := hx
      have hc : wr.cell? ⟨b, off + t, none⟩ = some (.string x) := (hb.out.cell (p := ⟨b, off + t, none⟩) hbs).trans (hcell t x hx)
      clear hlt hcell htl hx
      by_cases hm : m < (x.size : Int)
      · have HM : Hid (m < (x.size : Int)) := hm
        cases hcv : cov x s with
        | true =>
          have HC : Hid (cov x s = true) := hcv
          clear hcv
          go_wp2_with (go_at_call 17; refine (covers_b x s true HC.out _ HS.out).mono ?_; rintro e w2 ⟨rfl, hB2⟩; have HB2 : Hid (Below wr.heap.size wr w2) := hB2; clear hB2)
          go_roundw
          case rel => exact ⟨t + 1, (t : Int), (x.size : Int), rfl, rfl, by simp, by have := HT.out; omega, lngAt_yes hat.out HX.out HM.out HC.out, hb.out.trans (HB2.out.mono hb.out.size)⟩
          case measure => have := HT.out; simp [intOf]; omega
        | false =>
          have HC : Hid (cov x s = false) := hcv
          clear hcv
          go_wp2_with (go_at_call 17; refine (covers_b x s false HC.out _ HS.out).mono ?_; rintro e w2 ⟨rfl, hB2⟩; have HB2 : Hid (Below wr.heap.size wr w2) := hB2; clear hB2)
          go_roundw
          case rel => exact ⟨t + 1, f, m, rfl, rfl, by simp, by have := HT.out; omega, lngAt_no hat.out HX.out (by rw [HC.out]; simp), hb.out.trans (HB2.out.mono hb.out.size)⟩
          case measure => have := HT.out; simp [intOf]; omega
      · have HM : Hid (¬ m < (x.size : Int)) := hm
        have hm2 : (x.size : Int) ≤ m := by omega
        clear hm
        go_wp2_with fail
        go_roundw
        case rel => exact ⟨t + 1, f, m, rfl, rfl, by simp, by have := HT.out; omega, lngAt_no hat.out HX.out (fun h => HM.out h.1), hb⟩
        case measure => have := HT.out; simp [intOf]; omega
#print axioms longest_is
end Go.Proofs.Ythhdogokigpieaa.Oct
