/-
  Layer 20 (review): ReviewVotes: its rows.
-/
import Derived.Test.YtaecigpjcbjcbaaVtf
namespace Go.Proofs.Ytaecigpjcbjcbaa.Oct
open Go.RowKit
set_option linter.unusedSimpArgs false

/-- a row of the call's own, its cells one wide; its block may reach past its cap -/
def OT (B : Nat) (w : World) (e : TypeId) (v : Value) (cs : List Value) : Prop :=
  (v = .slice none 0 0 ∧ cs = []) ∨ ∃ g c L, v = .slice (some ⟨g, 0, none⟩) cs.length c ∧ B ≤ g ∧ Blk w g e L ∧ cs.length ≤ c ∧ c ≤ L.length ∧ c ≤ maxLen ∧ L.take cs.length = cs
theorem OT.nil (B : Nat) (w : World) (e : TypeId) : OT B w e (.slice none 0 0) [] := .inl ⟨rfl, rfl⟩
theorem OT.own {B : Nat} {w : World} {e n : Nat} {v : Value} {cs : List Value} (h : w.ownsRow B e 1 v n cs) : OT B w e v cs := by
  have hl : cs.length = n := by have := h.1; omega
  rcases h.2 with ⟨rfl, h0⟩ | ⟨g, cap, cur, rfl, hB, hb, hn, hc, hsz, ht⟩
  · exact .inl ⟨rfl, List.eq_nil_of_length_eq_zero (by omega)⟩
  · refine .inr ⟨g, cap, cur.toList, by rw [hl], hB, by unfold Blk; simpa using hb, by omega, by simp; omega, hc, ?_⟩
    rw [hl]; rw [Nat.mul_one] at ht; exact ht
theorem OT.lt {B : Nat} {w : World} {e : Nat} {v : Value} {cs : List Value} (h : OT B w e v cs) {g : Nat} (hg : v.ownBlock = some g) : B ≤ g ∧ g < w.heap.size := by
  rcases h with ⟨rfl, _⟩ | ⟨g', c, L, rfl, hB, hb, _⟩
  · cases hg
  · cases hg; exact ⟨hB, hb.lt⟩
theorem OT.same {B : Nat} {w w' : World} {e : Nat} {v : Value} {cs : List Value} (h : OT B w e v cs) (hs : ∀ g, v.ownBlock = some g → w'.heap[g]? = w.heap[g]?) : OT B w' e v cs := by
  rcases h with h | ⟨g, c, L, rfl, hB, hb, h⟩
  · exact .inl h
  · exact .inr ⟨g, c, L, rfl, hB, (hs g rfl).trans hb, h⟩
theorem OT.below {B : Nat} {w w' : World} {e : Nat} {v : Value} {cs : List Value} (h : OT B w e v cs) (hb : Below w.heap.size w w') : OT B w' e v cs := h.same fun g hg => hb.block g (h.lt hg).2
theorem OT.read {B : Nat} {w : World} {e : Nat} {v : Value} {cs : List Value} (h : OT B w e v cs) : ∃ a c, v = .slice a cs.length c ∧ cs.length ≤ c ∧ c ≤ maxLen ∧ (0 < cs.length → ∃ g L, a = some ⟨g, 0, none⟩ ∧ Blk w g e L ∧ c ≤ L.length ∧ L.take cs.length = cs) := by
  rcases h with ⟨rfl, rfl⟩ | ⟨g, c, L, rfl, hB, hb, h1, h2, h3, h4⟩
  · exact ⟨none, 0, rfl, Nat.le_refl _, Nat.zero_le _, fun h => absurd h (by simp)⟩
  · exact ⟨_, c, rfl, h1, h3, fun _ => ⟨g, L, rfl, hb, h2, h4⟩⟩
theorem take_get {L cs : List Value} (h : L.take cs.length = cs) {i : Nat} {x : Value} (hx : cs[i]? = some x) : L[i]? = some x := by
  have hlt := (List.getElem?_eq_some_iff.1 hx).1
  rw [← h, List.getElem?_take, if_pos hlt] at hx
  exact hx
/-- an element is put in -/
theorem OT.set {B : Nat} {w : World} {e g n c : Nat} {cs : List Value} (h : OT B w e (.slice (some ⟨g, 0, none⟩) n c) cs) (i : Nat) (x : Value) : OT B (w.setCell ⟨g, i, none⟩ x) e (.slice (some ⟨g, 0, none⟩) n c) (cs.set i x) := by
  rcases h with ⟨h, _⟩ | ⟨g', c', L, hv, hB, hb, h1, h2, h3, h4⟩
  · cases h
  · cases hv
    refine .inr ⟨g, c, L.set i x, by rw [List.length_set], hB, hb.set i x, by rw [List.length_set]; exact h1, by rw [List.length_set]; exact h2, h3, ?_⟩
    rw [List.length_set, List.take_set, h4]
/-- one more -/
theorem OT.app {B : Nat} {w : World} {t ty e by_ : Nat} (ht : Try.prog.underlying t = some (.slice e)) (hs : Sized e 1 by_) (hby : by_ ≤ 1000) {v : Value} {cs : List Value} (h : OT B w e v cs) (hB : B ≤ w.heap.size) (q c : Nat) (x : Value) (hx : x.oneCell' = true) (hq : w.cell? ⟨q, 0, none⟩ = some x) (hn : cs.length + 1 ≤ 1000000) :
    ∃ v' w', (Builtin.append_ #[t, t] ty #[v, .slice (some ⟨q, 0, none⟩) 1 c]).run Try.prog w = .ok v' w' ∧ OT B w' e v' (cs ++ [x]) ∧ w.grownBy w' v.ownBlock ∧ (v'.ownBlock = v.ownBlock ∨ v'.ownBlock = some w.heap.size) := by
  obtain ⟨i, hi, hs1, hb, z, hz, hzs⟩ := hs
  have hnews : ∀ j u, [x][j]? = some u → w.cell? ((⟨q, 0, none⟩ : Addr).add j) = some u := fun j u hu => by
    cases j with
    | zero => simp at hu; subst hu; rw [Addr.add_lit]; exact hq
    | succ j => simp at hu
  have h1 : ∀ u ∈ [x], u.oneCell' = true := by intro u hu; simp at hu; subst hu; exact hx
  have hbb : ∀ m, m ≤ 1000000 → (m + m / 4 + 192) * i.bytes ≤ 281474976710656 := fun m hm => Nat.le_trans (Nat.mul_le_mul_left _ (show i.bytes ≤ 1000 by omega)) (by omega)
  rcases h with ⟨rfl, rfl⟩ | ⟨g, cp, L, rfl, hBg, hbk, k1, k2, k3, k4⟩
  · obtain ⟨v', w', hr, h2, h3, _, h5⟩ := run_append_own_at (P := Try.prog) w B t ty e i z 1 i.bytes ht hi hz hs1 rfl hzs (by omega) (.slice none 0 0) 0 [] ⟨rfl, .inl ⟨rfl, rfl⟩⟩ ⟨q, 0, none⟩ 1 c [x] rfl hnews h1 (by unfold maxLen; omega) (by omega) hB
    exact ⟨v', w', hr, OT.own h2, h3, h5⟩
  · by_cases hroom : cs.length + 1 ≤ cp
    · have hr := run_append_room (P := Try.prog) w t ty e i ht hi g cs.length cp L.toArray hbk ⟨q, 0, none⟩ 1 c [x] (by rw [hs1]; rfl) hnews h1 hroom (by rw [hs1]; simp; omega)
      rw [hs1, Nat.mul_one] at hr
      have hbk' : Blk (w.setRow g (L.toArray.toList.take cs.length ++ [x] ++ L.toArray.toList.drop (cs.length + [x].length)).toArray) g e (L.take cs.length ++ [x] ++ L.drop (cs.length + 1)) := by
        unfold Blk
        exact setRow_heap w g _ _ e (0, 0) hbk
      refine ⟨_, _, hr, .inr ⟨g, cp, _, by rw [List.length_append]; rfl, hBg, hbk', by rw [List.length_append]; exact hroom, by simp; omega, k3, ?_⟩, ⟨rfl, rfl, rfl, by simp, fun k hk hne => setRow_other w g k _ (fun e => hne (by rw [e]; rfl))⟩, .inl rfl⟩
      rw [k4]
      exact List.take_left
    · have hr := run_append_grow (P := Try.prog) w t ty e i z ht hi hz ⟨g, 0, none⟩ cs.length cp cs (by rw [hs1]; omega) (fun j u hu => by rw [Addr.add_lit, Nat.zero_add]; exact hbk.cell (take_get k4 hu)) ⟨q, 0, none⟩ 1 c [x] (by rw [hs1]; rfl) hnews (by omega) (by omega) (growslice_fits_wide (by omega) (hbb _ hn))
      exact ⟨_, _, hr, OT.own (own_of_grown (B := B) hzs (by omega) (by rfl) hB (by unfold maxLen; omega)), ⟨rfl, rfl, rfl, by simp, fun k hk _ => Below.heap_alloc w.drew _ k hk⟩, .inr rfl⟩
/-- one is taken out: what lies ahead of it, capped, and what lies behind it -/
theorem OT.cut {B : Nat} {w : World} {t ty e by_ : Nat} (ht : Try.prog.underlying t = some (.slice e)) (hs : Sized e 1 by_) (hby : by_ ≤ 1000) {g n c : Nat} {cs : List Value} (h : OT B w e (.slice (some ⟨g, 0, none⟩) n c) cs) (hB : B ≤ w.heap.size) (i : Nat) (hi' : i < n) (hn : n ≤ 1000000) (o m c2 : Nat) (hm : m = n - (i + 1)) (ho : 0 < m → o = i + 1) :
    ∃ v' w', (Builtin.append_ #[t, t] ty #[.slice (some ⟨g, 0, none⟩) i i, .slice (some ⟨g, o, none⟩) m c2]).run Try.prog w = .ok v' w' ∧ OT B w' e v' (cs.eraseIdx i) ∧ Below w.heap.size w w' ∧ (v'.ownBlock = some g ∨ v'.ownBlock = some w.heap.size) := by
  obtain ⟨inf, hi, hs1, hb, z, hz, hzs⟩ := hs
  have hbb : ∀ m, m ≤ 1000000 → (m + m / 4 + 192) * inf.bytes ≤ 281474976710656 := fun m hm => Nat.le_trans (Nat.mul_le_mul_left _ (show inf.bytes ≤ 1000 by omega)) (by omega)
  rcases h with ⟨h, _⟩ | ⟨g', c', L, hv, hBg, hbk, k1, k2, k3, k4⟩
  · cases h
  cases hv
  by_cases h0 : m = 0
  · subst h0
    have hr := run_append_zero (P := Try.prog) w t ty e inf ht hi (some ⟨g, 0, none⟩) (some ⟨g, o, none⟩) i i c2 (Nat.le_refl _)
    have he : cs.eraseIdx i = cs.take i := by rw [List.eraseIdx_eq_take_drop_succ, List.drop_of_length_le (by omega), List.append_nil]
    have hl : (cs.take i).length = i := by rw [List.length_take]; omega
    refine ⟨_, w, hr, ?_, Below.refl _ _, .inl rfl⟩
    rw [he]
    refine .inr ⟨g, i, L, by rw [hl], hBg, hbk, by omega, by omega, by omega, ?_⟩
    rw [hl]
    have e1 : L.take i = (L.take cs.length).take i := by rw [List.take_take, Nat.min_eq_left (by omega)]
    rw [e1, k4]
  · have e0 := ho (by omega)
    subst e0
    have hr := run_append_grow (P := Try.prog) w t ty e inf z ht hi hz ⟨g, 0, none⟩ i i (cs.take i) (by rw [hs1, List.length_take]; omega)
      (fun j u hu => by
        rw [Addr.add_lit, Nat.zero_add]
        rw [List.getElem?_take] at hu
        split at hu
        · exact hbk.cell (take_get k4 hu)
        · cases hu)
      ⟨g, i + 1, none⟩ m c2 (cs.drop (i + 1)) (by rw [hs1, List.length_drop]; omega) (fun j u hu => by rw [Addr.add_lit]; rw [List.getElem?_drop] at hu; exact hbk.cell (take_get k4 hu)) (by omega) (by omega) (growslice_fits_wide (by omega) (hbb _ (by omega)))
    refine ⟨_, _, hr, ?_, (Below.refl _ _).drew.alloc (Nat.le_refl _) _, .inr rfl⟩
    rw [List.eraseIdx_eq_take_drop_succ]
    exact OT.own (own_of_grown (B := B) hzs (by rw [List.length_take]; omega) (by rw [List.length_drop]; omega) hB (by unfold maxLen; omega))
#print axioms OT.app
#print axioms OT.cut
#print axioms OT.set
theorem sized4 : Sized 4 1 1 := sized_of (by kernel_rfl)
end Go.Proofs.Ytaecigpjcbjcbaa.Oct
