/-
  Layer 5 (disk): numbers put in order, each one once.
-/
import Derived.Test.YtmhdldhplhffcaaShelf
import Derived.Test.YtmhdldhplhffcaaRel
import Derived.Sort.OwnSortedInts
import Derived.Lib.OwnBridge
namespace Go.Proofs.Ytmhdldhplhffcaa.Oct
open Go.RowKit Go.Sort

theorem compact_rises (d : Array Int) : ∀ m, (∀ i j, i ≤ j → j < m → d[i]! ≤ d[j]!) → (Lib.compactUpTo d m).Pairwise (· < ·) ∧ ∀ z, z ∈ Lib.compactUpTo d m ↔ ∃ i, i < m ∧ d[i]! = z
  | 0, _ => ⟨by simp [Lib.compactUpTo], fun z => by simp [Lib.compactUpTo]⟩
  | m + 1, hm => by
    obtain ⟨h1, h2⟩ := compact_rises d m (fun i j hij hj => hm i j hij (by omega))
    rw [Lib.compactUpTo_succ]
    by_cases hk : Lib.keeps d m = true
    · rw [if_pos hk]
      have hlt : ∀ i, i < m → d[i]! < d[m]! := by
        intro i hi
        have e1 : d[i]! ≤ d[m - 1]! := hm i (m - 1) (by omega) (by omega)
        have e2 : d[m - 1]! ≤ d[m]! := hm (m - 1) m (by omega) (by omega)
        have e3 : d[m]! ≠ d[m - 1]! := by
          have : m = 0 ∨ d[m]! ≠ d[m - 1]! := by simpa [Lib.keeps] using hk
          rcases this with h | h
          · omega
          · exact h
        omega
      refine ⟨List.pairwise_append.2 ⟨h1, by simp, fun a ha b hb => ?_⟩, fun z => ?_⟩
      · obtain ⟨i, hi, rfl⟩ := (h2 a).1 ha
        have : b = d[m]! := by simpa using hb
        rw [this]; exact hlt i hi
      · rw [List.mem_append, h2]
        constructor
        · rintro (⟨i, hi, e⟩ | h)
          · exact ⟨i, by omega, e⟩
          · exact ⟨m, by omega, by simpa using (List.mem_singleton.1 h).symm⟩
        · rintro ⟨i, hi, e⟩
          by_cases him : i = m
          · subst him; exact .inr (by rw [← e]; simp)
          · exact .inl ⟨i, by omega, e⟩
    · have hm0 : m ≠ 0 := fun e => hk (by subst e; exact Lib.keeps_lt_one d 0 (by omega))
      have he : d[m]! = d[m - 1]! := Classical.byContradiction fun c => hk (Lib.keeps_pos c)
      rw [if_neg hk, List.append_nil]
      refine ⟨h1, fun z => ?_⟩
      rw [h2]
      constructor
      · rintro ⟨i, hi, e⟩; exact ⟨i, by omega, e⟩
      · rintro ⟨i, hi, e⟩
        by_cases him : i = m
        · subst him; exact ⟨i - 1, by omega, by rw [← he]; exact e⟩
        · exact ⟨i, by omega, e⟩

/-- numbers put in order, each once -/
def rise (l : List Int) : List Int := Lib.compact (l.mergeSort fun x y => decide (x ≤ y))
theorem rise_spec (l : List Int) : (rise l).Pairwise (· < ·) ∧ ∀ z, z ∈ rise l ↔ z ∈ l := by
  have hs : (l.mergeSort fun x y => decide (x ≤ y)).Pairwise (fun x y => decide (x ≤ y) = true) := List.pairwise_mergeSort (fun a b c h1 h2 => by simp at *; omega) (fun a b => by simp; omega) l
  have hp := List.mergeSort_perm l fun x y => decide (x ≤ y)
  unfold rise Lib.compact
  generalize l.mergeSort (fun x y => decide (x ≤ y)) = ss at hs hp ⊢
  have := compact_rises ss.toArray ss.length (fun i j hij hj => by
    rcases Nat.lt_or_ge i j with h | h
    · have e := List.pairwise_iff_getElem.1 hs i j (by omega) hj h
      simp at e
      simpa [getElem!_pos, hj, show i < ss.length by omega] using e
    · have : i = j := by omega
      subst this; exact Int.le_refl _)
  refine ⟨this.1, fun z => ?_⟩
  rw [this.2, ← hp.mem_iff]
  constructor
  · rintro ⟨i, hi, e⟩
    rw [← e]
    simp [getElem!_pos, hi]
  · intro hz
    obtain ⟨i, hi, e⟩ := List.getElem_of_mem hz
    exact ⟨i, hi, by simp [getElem!_pos, hi, e]⟩
theorem rise_nil : rise [] = [] := by simp [rise, Lib.compact, Lib.compactUpTo]

/-- a slice of numbers that is read: its elements are l -/
def InI (w : World) (a : Option Addr) (len cap : Nat) (l : List Int) : Prop :=
  l.length = len ∧ len ≤ cap ∧ (0 < len → ∃ b off, a = some ⟨b, off, none⟩ ∧ b < w.heap.size ∧ ∀ i z, l[i]? = some z → w.cell? ⟨b, off + i, none⟩ = some (.int .i64 z))
theorem InI.below {w w' : World} {a : Option Addr} {len cap : Nat} {l : List Int} (h : InI w a len cap l) (hb : Below w.heap.size w w') : InI w' a len cap l := by
  obtain ⟨h1, h2, h3⟩ := h
  refine ⟨h1, h2, fun hp => ?_⟩
  obtain ⟨b, off, e1, e2, e3⟩ := h3 hp
  exact ⟨b, off, e1, Nat.lt_of_lt_of_le e2 hb.size, fun i z hz => (hb.cell (p := ⟨b, off + i, none⟩) e2).trans (e3 i z hz)⟩

set_option maxHeartbeats 1000000 in
theorem rising_is (w : World) (a : Option Addr) (len cap : Nat) (l : List Int) (h : InI w a len cap l) (hb : len ≤ 17592186044416) :
    Calls Try.prog 38 #[.slice a len cap] w fun e w' => ∃ v, e = .returned v ∧ w'.ownsRow w.heap.size 3 1 v (rise l).length ((rise l).map (Value.int .i64)) ∧ Below w.heap.size w w' := by
  by_cases h0 : len = 0
  · subst h0
    have hl : l = [] := List.eq_nil_of_length_eq_zero h.1
    subst hl
    rw [rise_nil]
    cases a with
    | none =>
      have k1 : Calls Try.prog 48 #[.slice none 0 cap] w fun e w' => e = .returned (.slice none 0 0) ∧ w' = w := Any.slices_Clone_int_nil laysClone 0 cap w
      have k2 : Calls Try.prog 49 #[.slice none 0 0] w fun e w' => e = .returned (.tuple #[]) ∧ w' = w := Any.slices_Sort_int_none laysSort none 0 w
      have k3 : Calls Try.prog 50 #[.slice none 0 0] w fun e w' => e = .returned (.slice none 0 0) ∧ w' = w := Any.slices_Compact_int_empty laysCompact none 0 w
      go_enter Try.func38, Try.ntmps38
      go_wp2_with (first
        | (go_at_call 48; refine k1.mono ?_; rintro e w1 ⟨rfl, rfl⟩)
        | (go_at_call 49; refine k2.mono ?_; rintro e w1 ⟨rfl, rfl⟩)
        | (go_at_call 50; refine k3.mono ?_; rintro e w1 ⟨rfl, rfl⟩))
      go_ret
      exact ⟨_, rfl, ⟨rfl, .inl ⟨rfl, rfl⟩⟩, Below.refl _ _⟩
    | some ad =>
      have k1 : Calls Try.prog 48 #[.slice (some ad) 0 cap] w fun e w' => ∃ v', e = .returned v' ∧ w'.ownsRow w.heap.size 3 1 v' 0 [] ∧ v' ≠ .slice none 0 0 ∧ Below w.heap.size w w' := Any.slices_Clone_int_zero laysClone ad cap w
      have k2 : ∀ p c W, Calls Try.prog 49 #[.slice p 0 c] W fun e w' => e = .returned (.tuple #[]) ∧ w' = W := fun p c W => Any.slices_Sort_int_none laysSort p c W
      have k3 : ∀ p c W, Calls Try.prog 50 #[.slice p 0 c] W fun e w' => e = .returned (.slice p 0 c) ∧ w' = W := fun p c W => Any.slices_Compact_int_empty laysCompact p c W
      go_enter Try.func38, Try.ntmps38
      go_wp2_with fail
      refine k1.mono ?_
      rintro e w1 ⟨v', rfl, ho, hne, hB⟩
      have HO : Hid (w1.ownsRow w.heap.size 3 1 v' 0 []) := ho
      have HB : Hid (Below w.heap.size w w1) := hB
      obtain ⟨p, c, rfl⟩ : ∃ p c, v' = .slice p 0 c := by
        rcases ho.2 with ⟨e, _⟩ | ⟨g, cap, cur, e, _⟩
        · exact ⟨_, _, e⟩
        · exact ⟨_, _, e⟩
      clear ho hB hne
      go_wp2_with (first
        | (go_at_call 49; refine (k2 p c w1).mono ?_; rintro e w2 ⟨rfl, rfl⟩)
        | (go_at_call 50; refine (k3 p c w2).mono ?_; rintro e w3 ⟨rfl, rfl⟩))
      go_ret
      exact ⟨_, rfl, HO.out, HB.out⟩
  · obtain ⟨b, off, rfl, hbl, hc⟩ := h.2.2 (by omega)
    have hln := h.1
    have k1 : Calls Try.prog 48 #[.slice (some ⟨b, off, none⟩) len cap] w fun e w' => ∃ v', e = .returned v' ∧ w'.ownsRow w.heap.size 3 1 v' len ((l.take len).map (Value.int .i64)) ∧ v' ≠ .slice none 0 0 ∧ Below w.heap.size w w' :=
      Any.slices_Clone_int laysClone b off len cap l w (by omega) (by omega) (fun j hj => by rw [hc j l[j] (by simp [hj])]; simp [List.getD, hj])
    rw [List.take_of_length_le (by omega)] at k1
    clear h hc
    go_enter Try.func38, Try.ntmps38
    go_wp2_with fail
    refine k1.mono ?_
    rintro e w1 ⟨v', rfl, ho, hne, hB⟩
    obtain ⟨g, cp, rfl, hgb, hgl, hcap, hmax, _, hH⟩ := Lib.holds_of_ownsRow ho hne
    subst hln
    have k2 : Calls Try.prog 49 #[.slice (some ⟨g, 0, none⟩) l.length cp] w1 fun e w' => e = .returned (.tuple #[]) ∧ ∃ n os, w' = grow (putRow (Value.int .i64) (Sort.ahead w1 n) g 0 (l.mergeSort fun x y => decide (x ≤ y)).toArray) os :=
      Any.slices_Sort_int laysSort g 0 cp l w1 hH hgl (by omega)
    have HO : Hid (w1.ownsRow w.heap.size 3 1 (.slice (some ⟨g, 0, none⟩) l.length cp) l.length (l.map (Value.int .i64))) := ho
    have HB : Hid (Below w.heap.size w w1) := hB
    have HG : Hid (w.heap.size ≤ g ∧ l.length ≤ cp ∧ cp ≤ maxLen) := ⟨hgb, hcap, hmax⟩
    clear ho hB hne hH k1 hgb hcap hmax
    go_wp2_with fail
    refine k2.mono ?_
    rintro e w2 ⟨rfl, n, os, hw2⟩
    obtain ⟨ss, hss⟩ : ∃ ss, ss = l.mergeSort fun x y => decide (x ≤ y) := ⟨_, rfl⟩
    rw [← hss] at hw2
    have hsl : ss.length = l.length := by rw [hss]; exact List.length_mergeSort l
    have ho2 : w2.ownsRow w.heap.size 3 1 (.slice (some ⟨g, 0, none⟩) l.length cp) l.length (ss.map (Value.int .i64)) := by
      rcases HO.out.2 with ⟨e, _⟩ | ⟨g', cap', cur, e, hb1, hb2, hb3, hb4, hb5, _⟩
      · cases e
      · cases e
        rw [hw2]
        exact ownsRow_sortedI hsl HG.out.1 hb2 hb3 hb4 hb5
    have HB2 : Hid (Below w.heap.size w w2) := by
      have hg := grownBy_sortedI (w := w1) (g := g) (n := n) (os := os) ss.toArray
      rw [← hw2] at hg
      exact HB.out.grown hg HB.out.size (by intro k hk; simp at hk; have := HG.out.1; omega)
    obtain ⟨g', cp', e', _, hgl2, _, _, _, hH2⟩ := Lib.holds_of_ownsRow ho2 (by simp)
    cases e'
    have k3 : Calls Try.prog 50 #[.slice (some ⟨g, 0, none⟩) ss.length cp] w2 fun e w' => e = .returned (.slice (some ⟨g, 0, none⟩) (Lib.compact ss).length cp) ∧ ∃ q, w' = putRow (Value.int .i64) (Sort.ahead w2 q) g 0 (Lib.compact ss ++ List.replicate (ss.length - (Lib.compact ss).length) 0).toArray :=
      Any.slices_Compact_int laysCompact g 0 cp ss w2 hH2 (by omega) (by rw [hsl]; exact HG.out.2.1)
    rw [hsl] at k3
    have HO2 : Hid (w2.ownsRow w.heap.size 3 1 (.slice (some ⟨g, 0, none⟩) l.length cp) l.length (ss.map (Value.int .i64))) := ho2
    have HR : Hid (rise l = Lib.compact ss) := by rw [hss]; rfl
    have HCL : Hid ((Lib.compact ss).length ≤ l.length) := by
      show _ ≤ _
      unfold Lib.compact Lib.compactUpTo
      rw [List.length_map, ← hsl]
      exact Nat.le_trans (List.length_filter_le ..) (by simp)
    clear hw2 hss ho2 hH2 k2 hgl2
    obtain ⟨K, hK⟩ : ∃ K, K = Lib.compact ss := ⟨_, rfl⟩
    rw [← hK] at k3 HR HCL
    clear hK
    go_wp2_with (go_at_call 50; refine k3.mono ?_; rintro e w3 ⟨rfl, q, hw3⟩; have HW3 : Hid (w3 = putRow (Value.int .i64) (Sort.ahead w2 q) g 0 (K ++ List.replicate (l.length - K.length) 0).toArray) := hw3; clear hw3)
    go_ret
    refine ⟨_, rfl, ?_, ?_⟩
    · rw [HR.out, HW3.out]
      have := Lib.ownsRow_putRow (q := q) (k := K.length) (ys := K ++ List.replicate (l.length - K.length) 0) HO2.out (by have := HCL.out; simp; omega) HCL.out
      rwa [List.take_left' rfl] at this
    · rw [HW3.out]
      exact Lib.below_putRow HB2.out HG.out.1
#print axioms rising_is
end Go.Proofs.Ytmhdldhplhffcaa.Oct
