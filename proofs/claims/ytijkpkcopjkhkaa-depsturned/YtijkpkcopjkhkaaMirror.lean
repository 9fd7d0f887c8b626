/-
  Layer 12 (deps): DepsMirror.
-/
import Derived.Test.YtijkpkcopjkhkaaMirrorReg
import Derived.Test.YtijkpkcopjkhkaaTurnPure
namespace Go.Proofs.Ytijkpkcopjkhkaa.Oct
open Go.RowKit

/-- what a law answers -/
def Law (w : World) (e : Ending) (w' : World) : Prop := e = .returned (.bool true) ∧ Below w.heap.size w w'

theorem bt {w w1 w2 : World} (h : Below w.heap.size w w1) (k : Below w1.heap.size w1 w2) : Below w.heap.size w w2 := h.trans (k.mono h.size)
/-- what 'Needs' tells, one hash asked -/
theorem needs_tell (w : World) (a : Option Addr) (len cap : Nat) (l : List It) (h y : Hs) (hi : Its w a len l) (hl : h.length = 32) (hn : len ≤ 256) (hm : many l ≤ 90000) (B : Bool) (hB : B = true ↔ Reach (getS (downS l)) h y) :
    Calls Try.prog 14 #[.slice a len cap, .agg (U h).toArray] w fun e w' => ∃ p n c rs, e = .returned (.slice p n c) ∧ Hid (HsR w' p n rs ∧ n ≤ 100000 ∧ decide (y ∈ rs) = B) ∧ Hid (Below w.heap.size w w') := by
  refine (needs_is w a len cap l h hi hl (by omega) hm).mono ?_
  rintro e w' ⟨p, n, c, rs, rfl, H1, H2⟩
  refine ⟨p, n, c, rs, rfl, ⟨H1.out.1, H1.out.2.1, ?_⟩, H2⟩
  rw [Bool.eq_iff_iff, decide_eq_true_iff, hB, H1.out.2.2.2]
  exact ⟨fun h => h.2, fun h => ⟨hn, h⟩⟩
theorem above_tell (w : World) (a : Option Addr) (len cap : Nat) (l : List It) (h y : Hs) (hi : Its w a len l) (hl : h.length = 32) (hn : len ≤ 256) (hm : many l ≤ 90000) (B : Bool) (hB : B = true ↔ Reach (getS (upS l)) h y) :
    Calls Try.prog 16 #[.slice a len cap, .agg (U h).toArray] w fun e w' => ∃ p n c rs, e = .returned (.slice p n c) ∧ Hid (HsR w' p n rs ∧ n ≤ 100000 ∧ decide (y ∈ rs) = B) ∧ Hid (Below w.heap.size w w') := by
  refine (above_is w a len cap l h hi hl (by omega) hm).mono ?_
  rintro e w' ⟨p, n, c, rs, rfl, H1, H2⟩
  refine ⟨p, n, c, rs, rfl, ⟨H1.out.1, H1.out.2.1, ?_⟩, H2⟩
  rw [Bool.eq_iff_iff, decide_eq_true_iff, hB, H1.out.2.2.2]
  exact ⟨fun h => h.2, fun h => ⟨hn, h⟩⟩

set_option maxRecDepth 100000 in
set_option maxHeartbeats 2000000 in
theorem mirror_law (l : List It) (a : Option Addr) (len cap : Nat) (t : Int) (h : Hs) (w : World) (hi : Its w a len l) (hc : len ≤ cap ∧ cap ≤ maxLen) (hl : h.length = 32) :
    Calls Try.prog 7 #[.slice a len cap, .int .i64 t, .agg (U h).toArray] w (Law w) := by
  obtain ⟨W, hW⟩ : ∃ W, w.alloc (.cells (U h).toArray 34) = W := ⟨_, rfl⟩
  have HB : Hid (Below w.heap.size w W ∧ W.rangeAt w.heap.size 0 (U h) ∧ w.heap.size < W.heap.size) := ⟨by rw [← hW]; exact (Below.refl _ w).alloc (Nat.le_refl _) _, by rw [← hW]; exact new34 w h, by rw [← hW]; simp⟩
  have HW : Hid (w.alloc (.cells (U h).toArray 34) = W) := hW
  have HI : Hid (Its w a len l ∧ h.length = 32) := ⟨hi, hl⟩
  have H8 : Hid (Calls Try.prog 8 #[.slice a len cap] W (LightP W len l)) := light_is W a len cap l (hi.below HB.out.1) hc
  have q5 : (len : Int) ≤ 9223372036854775807 := by have h1 := hc.1; have h2 := hc.2; unfold maxLen at h2; omega
  clear hW hi hl hc
  go_enter Try.func7, Try.ntmps7
  go_wp2_with fail
  rw [HW.out]
  refine H8.out.mono ?_
  rintro e w' ⟨b, rfl, HL, rfl⟩
  cases b with
  | false =>
    go_wp2_with fail
    refine (lives_is W).mono ?_
    rintro e w1 ⟨rfl, HB1⟩
    go_wp2
    go_ret
    exact ⟨rfl, HB.out.1.trans (HB1.out.mono HB.out.1.size)⟩
  | true =>
    by_cases h60 : 60 < len
    · have q1 : (60 : Int) < (len : Int) := by omega
      clear h60
      go_wp2_with fail
      refine (lives_is W).mono ?_
      rintro e w1 ⟨rfl, HB1⟩
      go_wp2
      go_ret
      exact ⟨rfl, HB.out.1.trans (HB1.out.mono HB.out.1.size)⟩
    · by_cases h0 : len = 0
      · subst h0
        go_wp2_with fail
        refine (lives_is W).mono ?_
        rintro e w1 ⟨rfl, HB1⟩
        go_wp2
        go_ret
        exact ⟨rfl, HB.out.1.trans (HB1.out.mono HB.out.1.size)⟩
      · have q1 : ¬ (60 : Int) < (len : Int) := by omega
        have q2 : ((len : Int) == 0) = false := by simp; omega
        have hU : 0 ≤ IntKind.u64.wrap t := by simp [IntKind.wrap, IntKind.signed, IntKind.bits]; omega
        obtain ⟨k, hk⟩ : ∃ k : Nat, (IntKind.u64.wrap t).tmod (len : Int) = (k : Int) ∧ k < len := by
          have h1 : 0 ≤ (IntKind.u64.wrap t).tmod (len : Int) := Int.tmod_nonneg _ hU
          have h2 := Int.tmod_lt_of_pos (IntKind.u64.wrap t) (show (0 : Int) < (len : Int) by omega)
          exact ⟨((IntKind.u64.wrap t).tmod (len : Int)).toNat, by omega, by omega⟩
        have q3 := hk.1
        have q4 : (k : Int) < (len : Int) := by omega
        obtain ⟨x, hx⟩ : ∃ x, l[k]? = some x := ⟨_, List.getElem?_eq_getElem (by rw [HI.out.1.1]; exact hk.2)⟩
        obtain ⟨b, off, rfl, hb, hel⟩ := HI.out.1.2 (by omega)
        have HX : Hid (x ∈ l ∧ x.name.length = 32 ∧ len ≤ 60 ∧ many l ≤ 90000) := ⟨List.mem_of_getElem? hx, (hel k x hx).1, by omega, by have := (HL.out rfl).2; omega⟩
        have HRA : Hid (W.rangeAt b (off + k * 33) (U x.name)) := rangeAt_same (hel k x hx).nm (HB.out.1.block b hb)
        obtain ⟨Y, hYl, hY⟩ := zero34
        have HZ : Hid (Y.length = 32) := hYl
        clear hYl h60 h0 hU hk hx hel hb
        go_wp2_with (first
          | (with_reducible change wpList _ _ _ ({ dst := some 32, op := _, type := _, pos := _, after := _, guard := _ } :: _) _ _
             refine wpList_load_mid rfl 34 (.tmp 31) rfl b (off + k * 33) rfl (U x.name) _ HRA.out Try.underlying34 rfl (info34 x.name HX.out.2.1) ?_)
          | (with_reducible change wpList _ _ _ ({ dst := none, op := Op.store 34 _ _, type := _, pos := _, after := _, guard := _ } :: _) _ _
             refine wpList_store_fresh rfl 34 (.tmp 7) (.tmp 32) rfl Y (U x.name) 34 rfl rfl (by rw [U_length, HX.out.2.1, HZ.out]) (info34 x.name HX.out.2.1) (U_one _) ?_)
          | fail)
        obtain ⟨V, hV⟩ : ∃ V, W.alloc (.cells (U x.name).toArray 34) = V := ⟨_, rfl⟩
        have HV : Hid (Below W.heap.size W V ∧ V.rangeAt W.heap.size 0 (U x.name) ∧ W.heap.size < V.heap.size) := by rw [← hV]; exact ⟨(Below.refl _ W).alloc (Nat.le_refl _) _, new34 W x.name, by simp⟩
        have HBV : Hid (Below w.heap.size w V) := bt HB.out.1 HV.out.1
        rw [hV]
        clear hV
        obtain ⟨B, hB⟩ : ∃ B : Bool, B = true ↔ Reach (getS (downS l)) x.name h := by
          classical
          exact ⟨decide (Reach (getS (downS l)) x.name h), decide_eq_true_iff⟩
        have HBB : Hid (B = true ↔ Reach (getS (downS l)) x.name h) := hB
        clear hB
        refine mirror_region (x := x.name) (h := h) (B := B) (show Hid _ from ⟨HI.out.2, HX.out.2.1⟩) ⟨HV.out.2.1, rangeAt_same HB.out.2.1 (HV.out.1.block _ HB.out.2.2), HV.out.2.2, Nat.lt_of_lt_of_le HB.out.2.2 HV.out.1.size⟩
          (fun V1 h1 => needs_tell V1 _ len cap l x.name h (HI.out.1.below (bt HBV.out h1)) HX.out.2.1 (by have := HX.out.2.2.1; omega) HX.out.2.2.2 B HBB.out)
          (fun V1 h1 => above_tell V1 _ len cap l h x.name (HI.out.1.below (bt HBV.out h1)) HI.out.2 (by have := HX.out.2.2.1; omega) HX.out.2.2.2 B (HBB.out.trans (mirror l x.name h))) ?_
        intro p1 n1 c1 z1 p2 n2 c2 z2 V5 hV5
        have HV5 : Hid (Below w.heap.size w V5) := bt HBV.out hV5
        clear hV5
        go_wp2
        go_ret
        exact ⟨rfl, HV5.out⟩
#print axioms mirror_law
end Go.Proofs.Ytijkpkcopjkhkaa.Oct
