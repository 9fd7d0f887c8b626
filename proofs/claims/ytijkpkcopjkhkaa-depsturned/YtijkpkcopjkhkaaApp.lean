/-
  Layer 12 (deps): append to a row of hashes that is the call's own.
-/
import Derived.Test.YtijkpkcopjkhkaaNamesOf
namespace Go.Proofs.Ytijkpkcopjkhkaa.Oct
open Go.RowKit

def UU (hs : List Hs) : List Value := hs.flatMap U
theorem UU_length {hs : List Hs} (h : ∀ x ∈ hs, x.length = 32) : (UU hs).length = hs.length * 32 := by
  induction hs with
  | nil => rfl
  | cons x hs ih =>
    unfold UU at *
    rw [List.flatMap_cons, List.length_append, ih (fun y hy => h y (by simp [hy])), U_length, h x (by simp)]
    simp; omega
theorem UU_append (a b : List Hs) : UU (a ++ b) = UU a ++ UU b := by simp [UU]
theorem UU_one (hs : List Hs) : ∀ v ∈ UU hs, v.oneCell' = true := by
  intro v hv
  obtain ⟨x, _, hx⟩ := List.mem_flatMap.1 hv
  exact U_one x v hx
theorem rangeAt_app {w : World} {g o : Nat} {a b : List Value} (h1 : w.rangeAt g o a) (h2 : w.rangeAt g (o + a.length) b) : w.rangeAt g o (a ++ b) := by
  intro j v hj
  by_cases hlt : j < a.length
  · rw [List.getElem?_append_left hlt] at hj; exact h1 j v hj
  · rw [List.getElem?_append_right (by omega)] at hj
    have := h2 (j - a.length) v hj
    rw [show o + a.length + (j - a.length) = o + j by omega] at this
    exact this
theorem rangeAt_left {w : World} {g o : Nat} {a b : List Value} (h : w.rangeAt g o (a ++ b)) : w.rangeAt g o a := by
  intro j v hj
  exact h j v (by rw [List.getElem?_append_left (List.getElem?_eq_some_iff.1 hj).1]; exact hj)
theorem rangeAt_right {w : World} {g o : Nat} {a b : List Value} (h : w.rangeAt g o (a ++ b)) : w.rangeAt g (o + a.length) b := by
  intro j v hj
  have := h (a.length + j) v (by rw [List.getElem?_append_right (by omega), show a.length + j - a.length = j by omega]; exact hj)
  rw [show o + (a.length + j) = o + a.length + j by omega] at this
  exact this
theorem rangeAt_UU {w : World} {g : Nat} : ∀ (hs : List Hs) (off : Nat), (∀ x ∈ hs, x.length = 32) → ((∀ i h, hs[i]? = some h → w.rangeAt g (off + i * 32) (U h)) ↔ w.rangeAt g off (UU hs))
  | [], off, _ => ⟨fun _ j v hj => by simp [UU] at hj, fun _ i h hi => by simp at hi⟩
  | x :: hs, off, hl => by
    have hx : x.length = 32 := hl x (by simp)
    have ih := rangeAt_UU (w := w) (g := g) hs (off + 32) (fun y hy => hl y (by simp [hy]))
    have e : UU (x :: hs) = U x ++ UU hs := by simp [UU]
    rw [e]
    constructor
    · intro h
      refine rangeAt_app (by simpa using h 0 x rfl) ?_
      rw [U_length, hx]
      refine ih.1 fun i y hy => ?_
      have := h (i + 1) y (by simpa using hy)
      rw [show off + (i + 1) * 32 = off + 32 + i * 32 by omega] at this
      exact this
    · intro h i y hi
      cases i with
      | zero => simp at hi; subst hi; simpa using rangeAt_left h
      | succ i =>
        have h2 := rangeAt_right h
        rw [U_length, hx] at h2
        have := ih.2 h2 i y (by simpa using hi)
        rw [show off + (i + 1) * 32 = off + 32 + i * 32 by omega]
        exact this
/-- a row of the call's own can be read -/
theorem own_read {w : World} {B : Nat} {v : Value} {n : Nat} {hs : List Hs} (h : w.ownsRow B 34 32 v n (UU hs)) (hl : ∀ x ∈ hs, x.length = 32) : ∃ a c, v = .slice a n c ∧ HsR w a n hs ∧ n ≤ c ∧ (a = none ∨ ∃ g, a = some ⟨g, 0, none⟩ ∧ B ≤ g) := by
  have hlen : hs.length = n := by
    have := h.1
    rw [UU_length hl] at this
    omega
  rcases h.2 with ⟨rfl, rfl⟩ | ⟨g, cap, cur, rfl, h1, h2, h3, h4, h5, h6⟩
  · exact ⟨none, 0, rfl, ⟨hlen, hl, fun h => absurd h (by omega)⟩, Nat.le_refl _, .inl rfl⟩
  · refine ⟨some ⟨g, 0, none⟩, cap, rfl, ⟨hlen, hl, fun _ => ⟨g, 0, rfl, (Array.getElem?_eq_some_iff.1 h2).1, ?_⟩⟩, h3, .inr ⟨g, rfl, h1⟩⟩
    refine (rangeAt_UU hs 0 hl).2 ?_
    intro j u hj
    have := h.cells (g := g) rfl j u hj
    rw [Addr.add_lit] at this
    exact this
theorem info34' : ∃ i : TypeInfo, Try.prog.info? 34 = some i ∧ i.size = 32 ∧ i.bytes = 32 ∧ ∃ z, i.zero = some z ∧ z.cells.size = 32 := by
  obtain ⟨i, hi, he⟩ := Option.map_eq_some_iff.1 (show (Try.prog.info? 34).map (fun i => (i.size, i.bytes, i.zero.map (·.cells.size))) = some (32, 32, some 32) by kernel_rfl)
  simp only [Prod.mk.injEq] at he
  obtain ⟨z, hz, hz2⟩ := Option.map_eq_some_iff.1 he.2.2
  exact ⟨i, hi, he.1, he.2.1, z, hz, hz2⟩
theorem run_app (w : World) (B : Nat) (ty : TypeId) (v : Value) (n : Nat) (hs : List Hs) (o : Option Addr) (m c : Nat) (xs : List Hs) (hown : w.ownsRow B 34 32 v n (UU hs)) (hx : HsR w o m xs) (hn : n + m ≤ 1000000) (hB : B ≤ w.heap.size) :
    ∃ v' w', (Builtin.append_ #[26, 26] ty #[v, .slice o m c]).run Try.prog w = .ok v' w' ∧ w'.ownsRow B 34 32 v' (n + m) (UU (hs ++ xs)) ∧ w.grownBy w' v.ownBlock ∧ (v'.ownBlock = v.ownBlock ∨ v'.ownBlock = some w.heap.size) := by
  obtain ⟨i, hi, hs1, hby, z, hz, hzs⟩ := info34'
  have h63 : n + m ≤ maxLen := by unfold maxLen; omega
  have hbytes : (n + m) * 32 ≤ 140737488355328 := by omega
  by_cases hm : 0 < m
  · obtain ⟨g, off, rfl, hg, hel⟩ := hx.2.2 hm
    have hr := (rangeAt_UU xs off hx.2.1).1 hel
    have hnews : ∀ j u, (UU xs)[j]? = some u → w.cell? ((⟨g, off, none⟩ : Addr).add j) = some u := fun j u hj => by rw [Addr.add_lit]; exact hr j u hj
    have hl : (UU xs).length = m * 32 := by rw [UU_length hx.2.1, hx.1]
    obtain ⟨v', w', hrun, ho, hg2, _⟩ := run_append_own w B 26 ty 34 i z 32 32 Try.underlying26 hi hz hs1 hby hzs (by omega) v n (UU hs) hown ⟨g, off, none⟩ m c (UU xs) hl hnews (UU_one xs) h63 hbytes hB
    refine ⟨v', w', hrun, by rw [UU_append]; exact ho, hg2, ?_⟩
    rcases hown.2 with ⟨rfl, rfl⟩ | ⟨g', cap, cur, rfl, hbg, hg', hnc, hcm, hcs, htake⟩
    · have hr2 := run_append_nil (P := Try.prog) w 26 ty 34 i z Try.underlying26 hi hz ⟨g, off, none⟩ m c (UU xs) (by rw [hs1]; exact hl) hnews (by omega) (by omega) (by rw [hby]; omega)
      rw [hr2] at hrun
      injection hrun with e1 e2
      exact .inr (by rw [← e1]; rfl)
    · by_cases hroom : n + m ≤ cap
      · have hr2 := run_append_room (P := Try.prog) w 26 ty 34 i Try.underlying26 hi g' n cap cur hg' ⟨g, off, none⟩ m c (UU xs) (by rw [hs1]; exact hl) hnews (UU_one xs) hroom (by rw [hs1, hl, hcs, ← Nat.add_mul]; exact Nat.mul_le_mul_right _ hroom)
        rw [hr2] at hrun
        injection hrun with e1 e2
        exact .inl (by rw [← e1]; rfl)
      · have holds := hown.cells (g := g') rfl
        have hr2 := run_append_grow (P := Try.prog) w 26 ty 34 i z Try.underlying26 hi hz ⟨g', 0, none⟩ n cap (UU hs) (by rw [hs1]; exact hown.1) holds ⟨g, off, none⟩ m c (UU xs) (by rw [hs1]; exact hl) hnews (by omega) (by omega) (growslice_fits (by omega) (by rw [hby]; exact hbytes))
        rw [hr2] at hrun
        injection hrun with e1 e2
        exact .inr (by rw [← e1]; rfl)
  · obtain rfl : m = 0 := by omega
    have hxs : xs = [] := List.eq_nil_of_length_eq_zero hx.1
    subst hxs
    obtain ⟨a, cap, rfl, _, hc, _⟩ : ∃ a cap, v = .slice a n cap ∧ True ∧ n ≤ cap ∧ True := by
      rcases hown.2 with ⟨rfl, rfl⟩ | ⟨g, cap, cur, rfl, h1, h2, h3, h4⟩
      · exact ⟨none, 0, rfl, trivial, Nat.le_refl _, trivial⟩
      · exact ⟨_, cap, rfl, trivial, h3, trivial⟩
    refine ⟨_, w, run_append_zero w 26 ty 34 i Try.underlying26 hi a o n cap c hc, by simpa using hown, World.grownBy.refl _ _, .inl rfl⟩
#print axioms run_app
end Go.Proofs.Ytijkpkcopjkhkaa.Oct
