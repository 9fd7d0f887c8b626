/-
  Layer 9 (names): the reference's 'Longest'.
-/
import Derived.Test.YthhdogokigpieaaLongRegion
namespace Go.Proofs.Ythhdogokigpieaa.Oct
open Go.RowKit

theorem lngAt_fst_no {l : List ByteArray} {s x : ByteArray} {t : Nat} (hx : l[t]? = some x) (h1 : ¬ ((lngAt l s t).2 < (x.size : Int) ∧ cov x s = true)) : (lngAt l s (t + 1)).1 = (lngAt l s t).1 := by
  simp only [lngAt, hx]; rw [if_neg h1]
set_option maxRecDepth 100000 in
set_option maxHeartbeats 4000000 in
theorem refLongest_is (l : List ByteArray) (s : ByteArray) (a : Option Addr) (n cp : Nat) (w : World) (hl : Strs w a n l) (hs : s.size ≤ 140737488355328) (hn : n ≤ 100000) :
    Calls Try.prog 20 #[.slice a n cp, .string s] w fun e w' => e = .returned (.int .i64 (lngAt l s n).1) ∧ Below w.heap.size w w' := by
  have HS : Hid (s.size ≤ 140737488355328) := hs
  have HL : Hid (Strs w a n l) := hl
  have HB0 : Hid (Below w.heap.size w w) := Below.refl _ _
  have hn2 : (n : Int) ≤ 100000 := by omega
  have mixed : Try.prog.follows .mixedOrders = true := by kernel_rfl
  clear hs hl
  go_enter Try.func20, Try.ntmps20
  go_wp2_with fail
  go_loopw [5, 6] (fun u i wr => ∃ (t : Nat) (f : Int), u = .int .i64 f ∧ i = .int .i64 (t : Int) ∧ t ≤ n ∧ Hid ((lngAt l s t).1 = f) ∧ Hid (Below w.heap.size w wr)) (fun _ i _ => n - (intOf i).toNat)
  case atStart => exact ⟨0, -1, rfl, rfl, by omega, rfl, HB0⟩
  case round =>
    obtain ⟨t, f, rfl, rfl, ht, hat, hb⟩ := hrel
    by_cases hlt : t = n
    · subst hlt
      go_wp2_with fail
      go_ret
      exact ⟨by rw [hat.out]; rfl, hb.out⟩
    · have q1 : (t : Int) < (n : Int) := by omega
      have HT : Hid (t < n) := by show t < n; omega
      obtain ⟨b, off, rfl, hbs, hcell⟩ := HL.out.2 (by omega)
      have htl : t < l.length := by rw [HL.out.1]; omega
      obtain ⟨x, hx⟩ : ∃ x, l[t]? = some x := ⟨_, List.getElem?_eq_getElem htl⟩
      have HX : Hid (l[t]? = some x) := hx
      have HCX : Hid (∀ W, Below w.heap.size w W → W.cell? ⟨b, off + t, none⟩ = some (.string x)) := fun W hW => (hW.cell (p := ⟨b, off + t, none⟩) hbs).trans (hcell t x hx)
      have hc : wr.cell? ⟨b, off + t, none⟩ = some (.string x) := HCX.out wr hb.out
      have HCELL : Hid (∀ W, Below w.heap.size w W → ∀ i y, l[i]? = some y → W.cell? ⟨b, off + i, none⟩ = some (.string y)) := fun W hW i y hy => (hW.cell (p := ⟨b, off + i, none⟩) hbs).trans (hcell i y hy)
      clear hlt hcell htl hx hbs
      cases hcv : cov x s with
      | false =>
        have HC : Hid (cov x s = false) := hcv
        clear hcv
        go_wp2_with fail
        refine lr_no hc HC.out HS.out q1 ?_
        intro w9 hB9
        have HB9 : Hid (Below wr.heap.size wr w9) := hB9
        clear hB9
        go_wp2_with fail
        go_roundw
        case rel => exact ⟨t + 1, f, rfl, by simp, by have := HT.out; omega, (by show _ = _; rw [lngAt_fst_no HX.out (fun h => by rw [HC.out] at h; cases h.2)]; exact hat.out), hb.out.trans (HB9.out.mono hb.out.size)⟩
        case measure => have := HT.out; simp [intOf]; omega
      | true =>
        have HC : Hid (cov x s = true) := hcv
        clear hcv
        rcases lng_inv l s t with hi | ⟨k, y, hi, hkt, hy, hcy⟩
        · have HI : Hid (lngAt l s t = (-1, -1)) := hi
          have hf : f = -1 := by rw [← hat.out, hi]
          subst hf
          clear hi
          go_wp2_with fail
          refine lr_first hc HC.out HS.out q1 ?_
          intro w9 hB9
          have HB9 : Hid (Below wr.heap.size wr w9) := hB9
          clear hB9
          go_wp2_with fail
          go_roundw
          case rel => exact ⟨t + 1, (t : Int), rfl, by simp, by have := HT.out; omega, (by show _ = _; rw [lngAt_yes HI.out HX.out (by omega) HC.out]), hb.out.trans (HB9.out.mono hb.out.size)⟩
          case measure => have := HT.out; simp [intOf]; omega
        · have HI : Hid (lngAt l s t = ((k : Int), (y.size : Int))) := hi
          have hf : f = (k : Int) := by rw [← hat.out, hi]
          subst hf
          have hkn : (k : Int) < (n : Int) := by omega
          have hcY : wr.cell? ⟨b, off + k, none⟩ = some (.string y) := HCELL.out wr hb.out k y hy
          clear hi hy hcy
          cases hG : decide ((y.size : Int) < (x.size : Int)) with
          | true =>
            have HG : Hid ((y.size : Int) < (x.size : Int)) := by show (y.size : Int) < (x.size : Int); exact of_decide_eq_true hG
            go_wp2_with fail
            refine lr_next hc HC.out HS.out q1 hcY hkn hG ?_
            intro w9 hB9
            have HB9 : Hid (Below wr.heap.size wr w9) := hB9
            clear hB9 hG
            go_wp2_with fail
            go_roundw
            case rel => exact ⟨t + 1, (t : Int), rfl, by simp, by have := HT.out; omega, (by show _ = _; rw [lngAt_yes HI.out HX.out HG.out HC.out]), hb.out.trans (HB9.out.mono hb.out.size)⟩
            case measure => have := HT.out; simp [intOf]; omega
          | false =>
            have HG : Hid ((x.size : Int) ≤ (y.size : Int)) := by show (x.size : Int) ≤ (y.size : Int); have := of_decide_eq_false hG; omega
            go_wp2_with fail
            refine lr_next hc HC.out HS.out q1 hcY hkn hG ?_
            intro w9 hB9
            have HB9 : Hid (Below wr.heap.size wr w9) := hB9
            clear hB9 hG
            go_wp2_with fail
            go_roundw
            case rel => exact ⟨t + 1, (k : Int), rfl, by simp, by have := HT.out; omega, (by show _ = _; rw [lngAt_no HI.out HX.out (fun h => by have h1 := HG.out; have h2 := h.1; omega)]), hb.out.trans (HB9.out.mono hb.out.size)⟩
            case measure => have := HT.out; simp [intOf]; omega
#print axioms refLongest_is
end Go.Proofs.Ythhdogokigpieaa.Oct
