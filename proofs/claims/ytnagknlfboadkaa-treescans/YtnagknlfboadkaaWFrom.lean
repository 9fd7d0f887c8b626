/-
  Layer 7 (tree): the closure of 'from', over a leaf.
-/
import Derived.Test.YtnagknlfboadkaaFrom
import Derived.Test.YtnagknlfboadkaaWOver
import Derived.Sort.QuietIn
import Derived.RangeFuncNested
import Derived.RangeFuncBound
import Derived.RangeFuncCalls
import Derived.RangeFuncLeaves
import Derived.Shelf.Abstract
import Derived.Shelf.RegionOpen
import Derived.WalkKit
import Derived.OwnWalkIn
import Derived.TacticsInMore
import Derived.LoopNIn
import Derived.LoopIn
namespace Go.Proofs.Ytnagknlfboadkaa.Oct.Wid
open Go.RowKit Go.Shelf
attribute [local go_sem] Oper.semAt_some

set_option maxRecDepth 100000 in
set_option maxHeartbeats 2000000 in
theorem from1_in (d l1 Bn Bk nd n cap : Nat) (a : Option Addr) (ps : List Pr) (key : ByteArray) (k : Nat) (hn : n ≤ 1000000) (hm : Mono ps key) (ha : AtP ps key k) (m₀ : Nat) (J : Nat → World → Prop) (Jx : World → Prop)
    (hJb : ∀ t A B, J t A → BelowR m₀ A B → J t B) (hJx : ∀ A, Jx A → A.cell? ⟨Bn, 0, none⟩ = some (.pointer (some ⟨nd, 0, none⟩)) ∧ Nd A nd a n cap ps (.slice none 0 0)) (hJ : ∀ t A, J t A → A.cell? ⟨Bn, 0, none⟩ = some (.pointer (some ⟨nd, 0, none⟩)) ∧ A.cell? ⟨Bk, 0, none⟩ = some (.string key) ∧ Nd A nd a n cap ps (.slice none 0 0) ∧ m₀ ≤ A.heap.size)
    (hY : ∀ t x A, J t A → (ps.drop k)[t]? = some x → YieldAt Fence.wide 0 Try.prog l1 (encQ x) A fun e B => Held m₀ A B ∧ ((e = .returned (.bool true) ∧ J (t + 1) B) ∨ (e = .returned (.bool false) ∧ Jx B)))
    (W : World) (hW : W.heap.size = m₀) (h0 : J 0 W) :
    CallsIn Fence.wide d Try.prog 37 #[.func (.yield l1) #[] #[], .pointer (some ⟨Bn, 0, none⟩), .pointer (some ⟨Bk, 0, none⟩)] W fun e B => (∃ v, e = .returned v) ∧ (J (ps.drop k).length B ∨ Jx B) := by
  refine callsIn_of_wp Try.func37 rfl trivial ?_ rfl
  simp only [Try.ntmps37, List.size_toArray, List.length_cons, List.length_nil, Nat.reduceAdd, Nat.reduceSub, Array.replicate_succ, Array.replicate_zero, List.push_toArray, List.append_toArray, List.nil_append, List.cons_append]
  have HN : Hid (n ≤ 1000000 ∧ Mono ps key ∧ AtP ps key k) := ⟨hn, hm, ha⟩
  have hJ0 := hJb 0 W (W.alloc (.cells #[.func (.yield l1) #[] #[]] 42)) h0 (BelowR.full ((Below.refl _ W).alloc (Nat.le_refl _) _) (by omega))
  obtain ⟨cn, ck, hnd, _⟩ := hJ 0 _ hJ0
  have HD : Hid (Nd (W.alloc (.cells #[.func (.yield l1) #[] #[]] 42)) nd a n cap ps (.slice none 0 0)) := hnd
  clear hn hm ha hnd
  gi_wp2_with (refine ⟨trivial, (fun h => by cases h), ?_⟩; gi_at_call 38; refine (callsIn_wide.2 (place_is _ nd a n cap ps _ key HD.out HN.out.2.1 (by have := HN.out; omega))).mono ?_; rintro e w1 ⟨k1, rfl, HA1, HB1⟩)
  have hk1 : k1 = k := HA1.out.uniq HN.out.2.2
  subst hk1
  have hkn : k1 ≤ n := by rw [← HD.out.rd.1]; exact HN.out.2.2.1
  have hJ1 : J 0 w1 := hJb 0 _ _ hJ0 (BelowR.full HB1.out (by simp; omega))
  have hy1 : w1.heap[m₀]? = some (.cells #[.func (.yield l1) #[] #[]] 42) := by
    rw [HB1.out.block m₀ (by simp; omega), ← hW]
    exact World.alloc_heap_new W _
  have HLEN : Hid (ps.length = n) := HD.out.rd.1
  have HKN : Hid (k1 ≤ n) := hkn
  clear hkn hJ0 cn ck HD HB1 HA1 h0
  obtain ⟨N, hN⟩ : ∃ N, n + 1 = N := ⟨_, rfl⟩
  have HNN : Hid (n + 1 = N) := hN
  clear hN
  gi_loopw [6] (fun u wr => ∃ i : Nat, u = .int .i64 (i : Int) ∧ Hid (k1 ≤ i ∧ i ≤ n + 1) ∧ Hid (J (if i ≤ n then i - k1 else n - k1) wr) ∧ Hid (wr.heap[m₀]? = some (.cells #[.func (.yield l1) #[] #[]] 42))) (fun u _ => N - (intOf u).toNat)
  case atStart => exact ⟨k1, rfl, ⟨Nat.le_refl _, by have := HKN.out; omega⟩, by show J _ _; rw [if_pos HKN.out, Nat.sub_self]; exact hJ1, hy1⟩
  case round =>
    clear hJ1 hy1
    obtain ⟨i, rfl, HI, HJ, HYC⟩ := hrel
    obtain ⟨cn, ck, hnd, _⟩ := hJ _ _ HJ.out
    have HD : Hid (Nd wr nd a n cap ps (.slice none 0 0)) := hnd
    have c0 := hnd.blk.cell (i := 0) rfl
    have c1 := hnd.blk.cell (i := 1) rfl
    have cy := cell_one HYC.out
    have b1 : (i : Int) ≤ 1000001 := by have := HI.out; have := HN.out; omega
    clear hnd
    by_cases hi : i < n
    · obtain ⟨x, hx⟩ : ∃ x, ps[i]? = some x := ⟨_, List.getElem?_eq_getElem (by rw [HLEN.out]; exact hi)⟩
      obtain ⟨g, off, rfl, hg, hc⟩ := HD.out.rd.2 (by omega)
      have e0 := (hc i x hx).1
      have e1 := (hc i x hx).2
      have q1 : (i : Int) ≤ (n : Int) := by omega
      have q2 : (i : Int) < (n : Int) := by omega
      have hdx : (ps.drop k1)[i - k1]? = some x := by rw [List.getElem?_drop, show k1 + (i - k1) = i by have := HI.out; omega]; exact hx
      have HJD : Hid (J (i - k1) wr.drew) := by
        have e := HJ.out
        rw [if_pos (by omega)] at e
        exact hJb _ _ _ e (BelowR.full (Below.refl _ wr).drew (by assumption))
      have HIL : Hid (i < n) := hi
      have HYA : Hid (YieldAt Fence.wide (d - 1) Try.prog l1 #[.string x.1, .string x.2] wr.drew fun e B => Held m₀ wr.drew B ∧ ((e = .returned (.bool true) ∧ J (i - k1 + 1) B) ∨ (e = .returned (.bool false) ∧ Jx B))) := YieldAt.deep (d - 1) (hY _ _ wr.drew HJD.out hdx)
      have HX : Hid (ps[i]? = some x) := hx
      clear hc hdx hx hi
      gi_wp2_with (refine ⟨trivial, (fun h => by cases h), ?_⟩; gi_at_call 39; refine (callsIn_wide.2 (leaf_is wr nd c1)).mono ?_; rintro e w2 ⟨rfl, rfl⟩)
      refine reg11 cy cn c0 e0 e1 q2 HYA.out ?_ ?_
      · rintro e B ⟨hH, hD⟩
        have hyB : B.cell? ⟨m₀, 0, none⟩ = some (.func (.yield l1) #[] #[]) := cell_one (hH.box HYC.out (by decide) (Nat.le_refl _))
        have fin : ∀ (v : Bool), e = .returned (.bool v) → B.cell? ⟨Bn, 0, none⟩ = some (.pointer (some ⟨nd, 0, none⟩)) → Nd B nd (some ⟨g, off, none⟩) n cap ps (.slice none 0 0) → ∃ v : Bool, e = .returned (.bool v) ∧ B.cell? ⟨m₀, 0, none⟩ = some (.func (.yield l1) #[] #[]) ∧ B.cell? ⟨Bn, 0, none⟩ = some (.pointer (some ⟨nd, 0, none⟩)) ∧ B.cell? ⟨nd, 0, none⟩ = some (.slice (some ⟨g, off, none⟩) n cap) ∧ B.cell? ⟨g, off + i * 2, none⟩ = some (.string x.1) ∧ B.cell? ⟨g, off + i * 2 + 1, none⟩ = some (.string x.2) := by
          intro v h1 h2 h3
          obtain ⟨g', off', e', _, hc⟩ := h3.rd.2 (by have := HIL.out; omega)
          cases e'
          exact ⟨v, h1, hyB, h2, h3.blk.cell (i := 0) rfl, (hc i x HX.out).1, (hc i x HX.out).2⟩
        rcases hD with ⟨h1, h2⟩ | ⟨h1, h2⟩
        · obtain ⟨r1, _, r3, _⟩ := hJ _ _ h2
          exact fin true h1 r1 r3
        · obtain ⟨r1, r3⟩ := hJx _ h2
          exact fin false h1 r1 r3
      · rintro v B ⟨hH, hD⟩
        have hyB : B.heap[m₀]? = some (.cells #[.func (.yield l1) #[] #[]] 42) := hH.box HYC.out (by decide) (Nat.le_refl _)
        have HYB : Hid (B.heap[m₀]? = some (.cells #[.func (.yield l1) #[] #[]] 42)) := hyB
        clear hyB hH
        cases v with
        | true =>
          have HJ3 : Hid (J (i - k1 + 1) B) := by
            rcases hD with ⟨h1, h2⟩ | ⟨h1, h2⟩
            · exact h2
            · cases h1
          clear hD
          gi_wp2
          go_roundw
          case rel =>
            refine ⟨i + 1, by simp, ⟨by have := HI.out; omega, by have := HIL.out; omega⟩, ?_, HYB⟩
            show J _ _
            rw [if_pos (by have := HIL.out; omega), show i + 1 - k1 = i - k1 + 1 by have := HI.out; omega]
            exact HJ3.out
          case measure => have := HNN.out; have := HIL.out; simp [intOf]; omega
        | false =>
          have HJ3 : Hid (Jx B) := by
            rcases hD with ⟨h1, h2⟩ | ⟨h1, h2⟩
            · cases h1
            · exact h2
          clear hD
          gi_wp2
          refine bodyPost_ret (results_none rfl _ _ _) rfl ?_
          exact ⟨⟨_, rfl⟩, .inr HJ3.out⟩
    · by_cases hin : i = n
      · subst hin
        have q1 : (i : Int) ≤ (i : Int) := Int.le_refl _
        have q2 : ¬ (i : Int) < (i : Int) := by omega
        have HJN : Hid (J (i - k1) wr) := by have e := HJ.out; rw [if_pos (Nat.le_refl _)] at e; exact e
        gi_wp2_with (refine ⟨trivial, (fun h => by cases h), ?_⟩; gi_at_call 39; refine (callsIn_wide.2 (leaf_is wr nd c1)).mono ?_; rintro e w2 ⟨rfl, rfl⟩)
        refine reg11n cn c0 (by omega) ?_
        gi_wp2
        go_roundw
        case rel =>
          refine ⟨i + 1, by simp, ⟨by have := HI.out; omega, Nat.le_refl _⟩, ?_, HYC.out⟩
          show J _ _
          rw [if_neg (by omega)]
          exact hJb _ _ _ HJN.out (BelowR.full (Below.refl _ wr).drew (by assumption))
        case measure => have := HNN.out; simp [intOf]; omega
      · have q1 : ¬ (i : Int) ≤ (n : Int) := by omega
        have HJN : Hid (J (n - k1) wr) := by have e := HJ.out; rw [if_neg (by omega)] at e; exact e
        gi_wp2
        go_end0
        refine ⟨⟨_, rfl⟩, .inl ?_⟩
        rw [HLEN.out]
        exact HJN.out
#print axioms from1_in
end Go.Proofs.Ytnagknlfboadkaa.Oct.Wid
