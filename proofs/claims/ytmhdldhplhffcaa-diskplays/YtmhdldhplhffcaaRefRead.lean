/-
  Layer 5 (disk): the reference: Read.
-/
import Derived.Test.YtmhdldhplhffcaaRefSmall
namespace Go.Proofs.Ytmhdldhplhffcaa.Oct
open Go.RowKit Go.Lib

section
variable {w : World} {r : Nat} {sv pv : Value} {D : Disk}
theorem RAt.sureAt (h : RAt w r sv pv D) : ∃ g c, sv = .slice (some ⟨g, 0, none⟩) D.n c ∧ D.n ≤ c ∧ g < w.heap.size ∧ ∀ i, i < D.n → w.cell? ⟨g, i, none⟩ = some (.string (strOf (D.sure i))) := by
  rcases h.sure.2 with ⟨_, e⟩ | ⟨g, cap, cur, rfl, _, hb, h1, _, h2, h3⟩
  · have := h.good.1; omega
  · refine ⟨g, cap, rfl, h1, lt_of_block hb, fun i hi => ?_⟩
    have := World.ownsRow.cellAt h.sure i (by omega)
    rw [this, strs_get _ _ _ hi]
theorem RAt.pendAt (h : RAt w r sv pv D) : ∃ a c, pv = .slice a D.pend.length c ∧ D.pend.length ≤ c ∧ (0 < D.pend.length → ∃ g, a = some ⟨g, 0, none⟩ ∧ g < w.heap.size ∧ ∀ t x, D.pend[t]? = some x → w.cell? ⟨g, t * 2, none⟩ = some (.int .i64 (x.1 : Int)) ∧ w.cell? ⟨g, t * 2 + 1, none⟩ = some (.string (strOf x.2))) := by
  rcases h.pend.2 with ⟨rfl, e⟩ | ⟨g, cap, cur, rfl, _, hb, h1, _, h2, h3⟩
  · exact ⟨none, 0, by rw [e], by omega, fun h => absurd h (by omega)⟩
  · refine ⟨_, cap, rfl, h1, fun _ => ⟨g, rfl, lt_of_block hb, fun t x hx => ?_⟩⟩
    have hlt := (List.getElem?_eq_some_iff.1 hx).1
    have e1 := World.ownsRow.cellAt h.pend (t * 2) (by omega)
    have e2 := World.ownsRow.cellAt h.pend (t * 2 + 1) (by omega)
    have := puts_get D.pend t x hx
    rw [e1, e2]
    exact this
/-- the last write of a sector, from behind -/
theorem settled_from {D : Disk} {i : Nat} {k : Nat} {x : Nat × List UInt8} (hx : D.pend[k]? = some x) (hi : x.1 = i) (hl : ∀ q y, k < q → D.pend[q]? = some y → y.1 ≠ i) : settled D.sure D.pend i = x.2 := by
  obtain ⟨a, b⟩ := x
  subst hi
  exact settled_at D.pend a b D.sure k hx hl

set_option maxRecDepth 100000 in
set_option maxHeartbeats 1000000 in
theorem rread_is (h : RAt w r sv pv D) (hn : D.ops < 1000000000000) (i : Int) :
    Calls Try.prog 36 #[.pointer (some ⟨r, 0, none⟩), .int .i64 i] w fun e w' => e = .returned (.tuple #[.string (strOf (D.read i).1), .int .i64 (D.read i).2]) ∧ w = w' := by
  have c0 := h.c0
  have c1 := h.c1
  have c2 := h.c2
  obtain ⟨g, c, rfl, hc, hg, hs⟩ := h.sureAt
  obtain ⟨a, cp, rfl, hcp, hpd⟩ := h.pendAt
  have hn1 := h.good.1
  have hn2 := h.good.2.1
  have HL : Hid (D.pend.length < 1000000000000) := by show _ < _; have := h.room; omega
  have HPD : Hid (0 < D.pend.length → ∃ g, a = some ⟨g, 0, none⟩ ∧ g < w.heap.size ∧ ∀ t x, D.pend[t]? = some x → w.cell? ⟨g, t * 2, none⟩ = some (.int .i64 (x.1 : Int)) ∧ w.cell? ⟨g, t * 2 + 1, none⟩ = some (.string (strOf x.2))) := hpd
  have HS : Hid (∀ i, i < D.n → w.cell? ⟨g, i, none⟩ = some (.string (strOf (D.sure i)))) := hs
  clear h hpd hs hg hcp hc
  obtain ⟨m, hm⟩ : ∃ m, D.pend.length = m := ⟨_, rfl⟩
  rw [hm] at c1 HL HPD
  have HM : Hid (D.pend.length = m) := hm
  obtain ⟨nn, hnn⟩ : ∃ nn, D.n = nn := ⟨_, rfl⟩
  rw [hnn] at c0 hn1 hn2 HS
  have q0 : (nn : Int) ≤ 4096 := by omega
  have qm : (m : Int) < 1000000000000 := by have := HL.out; omega
  have HNN : Hid (D.n = nn) := hnn
  unfold Disk.read
  cases hd : D.down with
  | true =>
    rw [hd] at c2
    simp only [if_true]
    go_enter Try.func36, Try.ntmps36
    go_wp2
    go_ret2
    exact ⟨rfl, rfl⟩
  | false =>
    rw [hd] at c2
    simp only [Bool.false_eq_true, if_false]
    by_cases hi : 0 ≤ i ∧ i < D.n
    · rw [if_neg (by simpa using hi)]
      have q1 : ¬ i < 0 := by omega
      have q2 : ¬ (nn : Int) ≤ i := by omega
      obtain ⟨k, rfl⟩ : ∃ k : Nat, i = (k : Int) := ⟨i.toNat, by omega⟩
      have HK : Hid (k < nn) := by show _ < _; omega
      have q3 : (k : Int) < (nn : Int) := by omega
      have hw : IntKind.i64.wrap ((m : Int) - 1) = (m : Int) - 1 := wrapi (by omega) (by omega)
      have ek : ((k : Int).toNat) = k := by omega
      rw [ek]
      have cs : w.cell? ⟨g, k, none⟩ = some (.string (strOf (D.sure k))) := HS.out k HK.out
      obtain ⟨A, hA⟩ : ∃ A, settled D.sure D.pend k = A := ⟨_, rfl⟩
      rw [hA]
      have HA : Hid (settled D.sure D.pend k = A) := hA
      clear hi hm hnn hd hA ek hn1 hn2
      go_enter Try.func36, Try.ntmps36
      go_wp2
      go_loop [6] (fun u => ∃ t : Nat, u = .int .i64 ((t : Int) - 1) ∧ t ≤ m ∧ Hid (∀ q y, t ≤ q → D.pend[q]? = some y → y.1 ≠ k)) (fun u => (intOf u + 1).toNat)
      case atStart => exact ⟨m, by simp, Nat.le_refl _, fun q y hq hy => by have := (List.getElem?_eq_some_iff.1 hy).1; have := HM.out; omega⟩
      case round =>
        obtain ⟨t, rfl, ht, HT⟩ := hrel
        by_cases h0 : t = 0
        · subst h0
          have HF : Hid (D.sure k = A) := by
            rw [← HA.out, settled_none D.pend k D.sure (fun x hx => by
              obtain ⟨q, hq⟩ := List.getElem?_of_mem hx
              exact HT.out q x (Nat.zero_le _) hq)]
            exact rfl
          rw [HF.out] at cs
          go_wp2
          go_ret2
          exact ⟨rfl, rfl⟩
        · obtain ⟨s, rfl⟩ : ∃ s, t = s + 1 := ⟨t - 1, by omega⟩
          have e1 : (((s + 1 : Nat) : Int)) - 1 = (s : Int) := by omega
          obtain ⟨x, hx⟩ : ∃ x, D.pend[s]? = some x := ⟨_, List.getElem?_eq_getElem (by rw [HM.out]; omega)⟩
          obtain ⟨gp, rfl, hgp, hcell⟩ := HPD.out (by omega)
          have d1 := (hcell s x hx).1
          have d2 := (hcell s x hx).2
          have HX : Hid (D.pend[s]? = some x) := hx
          have q4 : (s : Int) < (m : Int) := by omega
          have q5 : ¬ (s : Int) < 0 := by omega
          have hw2 : IntKind.i64.wrap ((s : Int) - 1) = (s : Int) - 1 := wrapi (by omega) (by omega)
          rw [e1]
          clear hcell hx h0 e1
          by_cases hxk : x.1 = k
          · have q6 : ((x.1 : Int) == (k : Int)) = true := by simp; omega
            have HF : Hid (x.2 = A) := by rw [← HA.out]; exact (settled_from HX.out hxk (fun q y hq hy => HT.out q y (by omega) hy)).symm
            rw [HF.out] at d2
            clear hxk
            go_wp2
            go_ret2
            exact ⟨rfl, rfl⟩
          · have q6 : ((x.1 : Int) == (k : Int)) = false := by simp; omega
            have HXK : Hid (x.1 ≠ k) := hxk
            clear hxk
            go_wp2
            go_round
            case rel =>
              refine ⟨s, rfl, by omega, fun q y hq hy => ?_⟩
              by_cases e : q = s
              · subst e; rw [HX.out] at hy; cases hy; exact HXK.out
              · exact HT.out q y (by omega) hy
            case measure => simp [intOf]
    · rw [if_pos (by simpa using hi)]
      by_cases h0 : i < 0
      · clear hi
        go_enter Try.func36, Try.ntmps36
        go_wp2
        go_ret2
        exact ⟨rfl, rfl⟩
      · have q2 : (nn : Int) ≤ i := by omega
        clear hi
        go_enter Try.func36, Try.ntmps36
        go_wp2
        go_ret2
        exact ⟨rfl, rfl⟩
end
#print axioms rread_is
end Go.Proofs.Ytmhdldhplhffcaa.Oct
