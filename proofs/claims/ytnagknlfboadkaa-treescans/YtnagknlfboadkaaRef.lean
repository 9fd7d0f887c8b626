/-
  Layer 7 (tree): the reference's Find, Get, Same.
-/
import Derived.Test.YtnagknlfboadkaaMapTop
import Derived.Test.YtnagknlfboadkaaLives
namespace Go.Proofs.Ytnagknlfboadkaa.Oct
open Go.RowKit

set_option maxRecDepth 100000 in
set_option maxHeartbeats 1000000 in
theorem find_is (w : World) (a : Option Addr) (n cap : Nat) (ps : List Pr) (key : ByteArray) (k : Nat) (h : RdP w a n ps) (ha : AtP ps key k) (hn : n ≤ 1000000) :
    Calls Try.prog 36 #[.slice a n cap, .string key] w fun e w' => e = .returned (.tuple #[.int .i64 (k : Int), .bool (isP ps key k)]) ∧ Hid (Below w.heap.size w w') := by
  have HR : Hid (RdP w a n ps ∧ AtP ps key k ∧ n ≤ 1000000) := ⟨h, ha, hn⟩
  clear h ha hn
  go_enter Try.func36, Try.ntmps36
  go_wp2
  go_loopw [6] (fun u wr => ∃ i : Nat, u = .int .i64 (i : Int) ∧ Hid (i ≤ k) ∧ Hid (w = wr)) (fun u _ => n - (intOf u).toNat)
  case atStart => exact ⟨0, rfl, Nat.zero_le _, rfl⟩
  case round =>
    obtain ⟨i, rfl, HI, HW⟩ := hrel
    have hW := HW.out
    subst hW
    have q2 : (n : Int) ≤ 1000000 := by have := HR.out.2.2; omega
    have hkn : k ≤ n := by have := HR.out.2.1.1; rw [HR.out.1.1] at this; exact this
    by_cases hi : i < n
    · obtain ⟨x, hx⟩ : ∃ x, ps[i]? = some x := ⟨_, List.getElem?_eq_getElem (by rw [HR.out.1.1]; exact hi)⟩
      obtain ⟨g, off, rfl, hg1, hc1⟩ := HR.out.1.2 (by omega)
      have a0 := (hc1 i x hx).1
      have q1 : (i : Int) < (n : Int) := by omega
      have HL : Hid (i < n) := hi
      by_cases hik : i < k
      · have HK : Hid (i < k) := hik
        have hlt : Op.bytesLess x.1.toList key.toList = true := by
          have := HR.out.2.1.2.1 i x hik hx
          unfold geS at this
          simpa using this
        generalize x.1 = x1 at *
        clear hc1 hx hi hg1 hik hkn
        go_wp2
        go_roundw
        case rel => exact ⟨i + 1, by simp, HK.out, trivial⟩
        case measure => have := HL.out; simp [intOf]; omega
      · have hik' : i = k := by have := HI.out; omega
        subst hik'
        have hlt : Op.bytesLess x.1.toList key.toList = false := by
          have := HR.out.2.1.2.2 i x (Nat.le_refl _) hx
          unfold geS at this
          simpa using this
        have HIS : Hid (isP ps key i = (x.1.toList == key.toList)) := by show _ = _; simp only [isP, hx]
        generalize x.1 = x1 at *
        clear hc1 hx hi hg1 hik hkn
        go_wp2
        go_quiet (fail)
        go_wp2
        go_ret2
        exact ⟨by rw [HIS.out]; rfl, below_drewN (Below.refl _ _) _⟩
    · have hik' : i = k := by have := HI.out; omega
      subst hik'
      have q1 : ¬ (i : Int) < (n : Int) := by omega
      have HIS : Hid (isP ps key i = false) := by
        show _ = _
        have : ps[i]? = none := by rw [List.getElem?_eq_none_iff, HR.out.1.1]; omega
        simp only [isP, this]
      clear hkn
      go_wp2
      go_quiet (fail)
      go_wp2
      go_ret2
      exact ⟨by rw [HIS.out]; rfl, below_drewN (Below.refl _ _) _⟩
#print axioms find_is

theorem rget_is (w : World) (a : Option Addr) (n cap : Nat) (ps : List Pr) (key : ByteArray) (h : RdP w a n ps) (hr : Ris ps) (hn : n ≤ 1000000) :
    Calls Try.prog 23 #[.slice a n cap, .string key] w fun e w' => e = .returned (.tuple #[.string (gv (eqs key ps)), .bool (!(eqs key ps).isEmpty)]) ∧ Hid (Below w.heap.size w w') := by
  obtain ⟨k, ha⟩ := find_at ps key (ris_mono hr key)
  have HC : Hid (RdP w a n ps ∧ AtP ps key k ∧ n ≤ 1000000) := ⟨h, ha, hn⟩
  cases hi : isP ps key k with
  | false =>
    have HE : Hid (eqs key ps = [] ∧ isP ps key k = false) := ⟨eqs_no hr ha hi, hi⟩
    clear h ha hr hn hi
    go_enter Try.func23, Try.ntmps23
    go_wp2_with (go_at_call 36; refine (find_is w a n cap ps key k HC.out.1 HC.out.2.1 HC.out.2.2).mono ?_; rintro e w3 ⟨rfl, HB⟩; rw [HE.out.2])
    go_ret2
    exact ⟨by rw [HE.out.1]; rfl, HB⟩
  | true =>
    obtain ⟨x, hx, hk, he⟩ := eqs_is hr ha hi
    have HE : Hid (eqs key ps = [x] ∧ isP ps key k = true ∧ ps[k]? = some x) := ⟨he, hi, hx⟩
    have hkn : k < n := by rw [← h.1]; exact (List.getElem?_eq_some_iff.1 hx).1
    obtain ⟨g, off, rfl, hg1, hc1⟩ := h.2 (by omega)
    have HX : Hid (∀ W, Below w.heap.size w W → W.cell? ⟨g, off + k * 2 + 1, none⟩ = some (.string x.2)) := fun W hW => (hW.cell (p := ⟨g, _, none⟩) hg1.lt).trans (hc1 k x hx).2
    have q1 : (k : Int) < (n : Int) := by omega
    have q0 : (0 : Int) ≤ (k : Int) := by omega
    clear h ha hr hn hi hx hk he hkn hc1 hg1
    go_enter Try.func23, Try.ntmps23
    go_wp2_with (go_at_call 36; refine (find_is w _ n cap ps key k HC.out.1 HC.out.2.1 HC.out.2.2).mono ?_; rintro e w3 ⟨rfl, HB⟩; rw [HE.out.2.1]; have c1 := HX.out w3 HB.out)
    go_ret2
    exact ⟨by rw [HE.out.1]; rfl, HB⟩
#print axioms rget_is

/-- are lists of pairs the same? -/
def sameP (ps qs : List Pr) : Bool := decide (ps.map (fun x => (x.1.toList, x.2.toList)) = qs.map (fun x => (x.1.toList, x.2.toList)))
theorem sameP_iff (ps qs : List Pr) : sameP ps qs = true ↔ ps = qs := by
  unfold sameP
  rw [decide_eq_true_iff]
  refine ⟨fun h => ?_, fun h => by rw [h]⟩
  exact (List.map_inj_right (f := fun x : Pr => (x.1.toList, x.2.toList)) fun x y e => by
    obtain ⟨x1, x2⟩ := x
    obtain ⟨y1, y2⟩ := y
    simp only [Prod.mk.injEq] at e ⊢
    exact ⟨list_inj e.1, list_inj e.2⟩).1 h
theorem sameP_no {ps qs : List Pr} (h : ps ≠ qs) : sameP ps qs = false := by
  cases hs : sameP ps qs with
  | false => rfl
  | true => exact absurd ((sameP_iff ps qs).1 hs) h
theorem sameP_yes {ps qs : List Pr} (h : ps = qs) : sameP ps qs = true := (sameP_iff ps qs).2 h

set_option maxRecDepth 100000 in
set_option maxHeartbeats 1000000 in
theorem same_any (w : World) (a : Option Addr) (n c : Nat) (ps : List Pr) (a2 : Option Addr) (n2 c2 : Nat) (qs : List Pr) (h : RdP w a n ps) (h2 : RdP w a2 n2 qs) (hn : n ≤ 1000000) (hn2 : n2 ≤ 1000000) :
    Calls Try.prog 12 #[.slice a n c, .slice a2 n2 c2] w fun e w' => e = .returned (.bool (sameP ps qs)) ∧ Hid (Below w.heap.size w w') := by
  by_cases hne : n = n2
  · subst hne
    have HR : Hid (RdP w a n ps ∧ RdP w a2 n qs ∧ n ≤ 1000000) := ⟨h, h2, hn⟩
    clear h h2 hn hn2
    go_enter Try.func12, Try.ntmps12
    go_wp2
    go_loopw [5] (fun u wr => ∃ i : Nat, u = .int .i64 (i : Int) ∧ Hid (i ≤ n ∧ ps.take i = qs.take i) ∧ Hid (Below w.heap.size w wr)) (fun u _ => n - (intOf u).toNat)
    case atStart => exact ⟨0, rfl, ⟨Nat.zero_le _, rfl⟩, Below.refl _ _⟩
    case round =>
      obtain ⟨i, rfl, HI, HB⟩ := hrel
      by_cases hi : i < n
      · obtain ⟨x, hx⟩ : ∃ x, ps[i]? = some x := ⟨_, List.getElem?_eq_getElem (by rw [HR.out.1.1]; exact hi)⟩
        obtain ⟨y, hy⟩ : ∃ y, qs[i]? = some y := ⟨_, List.getElem?_eq_getElem (by rw [HR.out.2.1.1]; exact hi)⟩
        obtain ⟨g, off, rfl, hg1, hc1⟩ := HR.out.1.2 (by omega)
        obtain ⟨g2, off2, rfl, hg2, hc2⟩ := HR.out.2.1.2 (by omega)
        have a0 : wr.cell? ⟨g, off + i * 2, none⟩ = some (.string x.1) := (HB.out.cell (p := ⟨g, _, none⟩) hg1.lt).trans (hc1 i x hx).1
        have a1 : wr.cell? ⟨g, off + i * 2 + 1, none⟩ = some (.string x.2) := (HB.out.cell (p := ⟨g, _, none⟩) hg1.lt).trans (hc1 i x hx).2
        have b0 : wr.cell? ⟨g2, off2 + i * 2, none⟩ = some (.string y.1) := (HB.out.cell (p := ⟨g2, _, none⟩) hg2.lt).trans (hc2 i y hy).1
        have b1 : wr.cell? ⟨g2, off2 + i * 2 + 1, none⟩ = some (.string y.2) := (HB.out.cell (p := ⟨g2, _, none⟩) hg2.lt).trans (hc2 i y hy).2
        have q1 : (i : Int) < (n : Int) := by omega
        have q2 : (n : Int) ≤ 1000000 := by have := HR.out.2.2; omega
        have HL : Hid (i < n) := hi
        have HX : Hid (ps[i]? = some x ∧ qs[i]? = some y) := ⟨hx, hy⟩
        by_cases hxy : x = y
        · subst hxy
          have HNX : Hid (ps.take (i + 1) = qs.take (i + 1)) := by
            show _ = _
            rw [List.take_add_one, List.take_add_one, HI.out.2, hx, hy]
          generalize x.1 = x1 at *
          generalize x.2 = x2 at *
          clear hc1 hc2 hx hy hi hg1 hg2
          go_wp2
          go_quiet (fail)
          go_wp2
          go_roundw
          case rel => exact ⟨i + 1, by simp, ⟨HL.out, HNX.out⟩, below_drewN HB.out _⟩
          case measure => have := HL.out; simp [intOf]; omega
        · have HNO : Hid (sameP ps qs = false) := sameP_no fun e => hxy (by rw [e, hy] at hx; exact (Option.some.inj hx).symm)
          have hpq : (x.1.toList == y.1.toList) = false ∨ (x.1.toList == y.1.toList) = true ∧ (x.2.toList == y.2.toList) = false := by
            cases e1 : x.1.toList == y.1.toList with
            | false => exact .inl rfl
            | true =>
              cases e2 : x.2.toList == y.2.toList with
              | false => exact .inr ⟨rfl, rfl⟩
              | true => exact absurd (Prod.ext (eqb_iff.1 e1) (eqb_iff.1 e2)) hxy
          generalize x.1 = x1 at *
          generalize x.2 = x2 at *
          generalize y.1 = y1 at *
          generalize y.2 = y2 at *
          clear hc1 hc2 hx hy hi hg1 hg2 hxy
          rcases hpq with p1 | ⟨p1, p2⟩
          · go_wp2
            go_quiet (fail)
            go_wp2
            go_ret
            exact ⟨by rw [HNO.out]; rfl, below_drewN HB.out _⟩
          · have p1' : x1 = y1 := eqb_iff.1 p1
            subst p1'
            clear p1
            go_wp2
            go_quiet (fail)
            go_wp2
            go_ret
            exact ⟨by rw [HNO.out]; rfl, below_drewN HB.out _⟩
      · have q1 : ¬ (i : Int) < (n : Int) := by omega
        have HYES : Hid (sameP ps qs = true) := sameP_yes (by
          have := HI.out.2
          rwa [List.take_of_length_le (by rw [HR.out.1.1]; omega), List.take_of_length_le (by rw [HR.out.2.1.1]; omega)] at this)
        go_wp2
        go_ret
        exact ⟨by rw [HYES.out]; rfl, HB⟩
  · have HNO : Hid (sameP ps qs = false) := sameP_no fun e => hne (by rw [← h.1, ← h2.1, e])
    have q1 : ¬ (n : Int) = (n2 : Int) := by omega
    clear h h2 hn hn2
    go_enter Try.func12, Try.ntmps12
    go_wp2
    go_ret
    exact ⟨by rw [HNO.out]; rfl, Below.refl _ _⟩
#print axioms same_any
end Go.Proofs.Ytnagknlfboadkaa.Oct
