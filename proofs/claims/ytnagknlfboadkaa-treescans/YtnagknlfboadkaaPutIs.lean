/-
  Layer 7 (tree): 'put' into a tree of any depth.
-/
import Derived.Test.YtnagknlfboadkaaPutNode
namespace Go.Proofs.Ytnagknlfboadkaa.Oct
open Go.RowKit

theorem find_at (ps : List Pr) (key : ByteArray) (h : Mono ps key) : ∃ k, AtP ps key k := by
  induction ps with
  | nil => exact ⟨0, Nat.le_refl _, fun i x hi => absurd hi (by omega), fun i x _ hx => by simp at hx⟩
  | cons p ps ih =>
    cases hg : geS p.1 key with
    | true =>
      refine ⟨0, Nat.zero_le _, fun i x hi => absurd hi (by omega), fun i x _ hx => ?_⟩
      exact h 0 i p x (Nat.zero_le _) rfl hx hg
    | false =>
      obtain ⟨k, h1, h2, h3⟩ := ih (fun i j x y hij hx hy hgx => h (i + 1) (j + 1) x y (by omega) (by simpa using hx) (by simpa using hy) hgx)
      refine ⟨k + 1, by simpa using h1, fun i x hi hx => ?_, fun i x hi hx => ?_⟩
      · cases i with
        | zero => simp at hx; rw [← hx]; exact hg
        | succ i => exact h2 i x (by omega) (by simpa using hx)
      · cases i with
        | zero => omega
        | succ i => exact h3 i x (by omega) (by simpa using hx)
theorem put_all : ∀ d, PutC d
  | 0 => by
    intro w t0 nd x hL hG
    obtain ⟨t, ht0⟩ : ∃ t : List Pr, t = t0 := ⟨t0, rfl⟩
    subst ht0
    obtain ⟨a, n, cap, hN, hC⟩ := hL
    have hr : Ris t := hG.ris
    have hm := ris_mono hr x.1
    obtain ⟨k, ha⟩ := find_at t x.1 hm
    have hn : n ≤ 7 := by rw [← hN.rd.1]; exact hG.most
    cases hi : isP t x.1 k with
    | true =>
      refine (put_eq w nd n cap 0 0 a none t x k hN hm hn hC ha hi).mono ?_
      rintro e w' ⟨nd2, a2, n2, cap2, ps2, rfl, h1, h2, h3⟩
      have hlt : k < t.length := by
        cases hx : t[k]? with
        | some y => exact (List.getElem?_eq_some_iff.1 hx).1
        | none => simp only [isP, hx] at hi; cases hi
      have hl : ps2.length = t.length := by rw [h1.out]; simp; omega
      refine ⟨nd2, (⟨#[]⟩, ⟨#[]⟩), none, .one ps2, rfl, ⟨nd2, rfl, a2, n2, cap2, h2.out.1, h2.out.2⟩, ⟨?_, ⟨trivial, ?_⟩, ?_⟩, h3⟩
      · show ps2 = insP t x
        rw [h1.out, leaf_ins_is hr ha hi]
      · show ps2.length ≤ 7; rw [hl]; exact hG.most
      · intro t' ht; have : ps2 = t' := by injection ht
        subst this
        exact Nat.le_of_eq hl.symm
    | false =>
      refine (put_lf w nd n cap a t x k hN hm hn hC ha hi).mono ?_
      rintro e w' ⟨b, y, r, H, rfl, h1, h2, h3⟩
      exact ⟨b, y, r, H, rfl, h1, ⟨by rw [h2.out.1]; exact (leaf_ins_no hr ha hi).symm, h2.out.2⟩, h3⟩
  | d + 1 => by
    intro w t nd x hL hG
    obtain ⟨a, n, cap, a', n', cap', bs, hN, hC, hK, hCK, hbl, hkk⟩ := hL
    have hr : Ris (inter (t.2.map (tl d)) t.1) := hG.ris
    have hrp : Ris t.1 := ris_own hG.ris hG.wf.1
    have hm := ris_mono hrp x.1
    obtain ⟨k, ha⟩ := find_at t.1 x.1 hm
    have hn : n ≤ 7 := by rw [← hN.rd.1]; exact hG.most
    have hks : Kids w d t.2 bs := ⟨hbl, hkk⟩
    cases hi : isP t.1 x.1 k with
    | true =>
      refine (put_eq w nd n cap n' cap' a a' t.1 x k hN hm hn hC ha hi).mono ?_
      rintro e w' ⟨nd2, a2, n2, cap2, ps2, rfl, h1, h2, h3⟩
      obtain ⟨_, hat, _⟩ := ris_at hrp ha
      obtain ⟨y, hy, hyk, hsp, _⟩ := hat hi
      have hlt := (List.getElem?_eq_some_iff.1 hy).1
      have hl : ps2.length = t.1.length := by rw [h1.out]; simp; omega
      refine ⟨nd2, (⟨#[]⟩, ⟨#[]⟩), none, .one (ps2, t.2), rfl, ⟨nd2, rfl, a2, n2, cap2, a', n', cap', bs, h2.out.1, h2.out.2, hK.below h3.out (Nat.le_refl _), hCK, hbl, (hks.below h3.out).2⟩, ⟨?_, ⟨⟨by show t.2.length = ps2.length + 1; rw [hl]; exact hG.wf.1, hG.wf.2⟩, ?_⟩, ?_⟩, h3⟩
      · show inter (t.2.map (tl d)) ps2 = insP (inter (t.2.map (tl d)) t.1) x
        obtain ⟨A, B, e, hA, hB, hLA, hGB⟩ := node_is hG.wf.1 hr hy
        rw [e, insP_one hyk (by rw [← hyk]; exact hLA) (by rw [← hyk]; exact hGB), hA, hB, h1.out]
        have e1 : t.2.map (tl d) = (t.2.map (tl d)).take (k + 1) ++ (t.2.map (tl d)).drop (k + 1) := (List.take_append_drop _ _).symm
        have hwl := hG.wf.1
        refine (congrArg (fun l => inter l (t.1.take k ++ [x] ++ t.1.drop (k + 1))) e1).trans ?_
        rw [List.append_assoc, List.singleton_append]
        exact inter_join (by simp; omega) (by
          intro h0
          have := congrArg List.length h0
          simp at this; omega)
      · show ps2.length ≤ 7; rw [hl]; exact hG.most
      · intro t' ht; have : (ps2, t.2) = t' := by injection ht
        subst this
        exact Nat.le_of_eq hl.symm
    | false =>
      have hkl : k < t.2.length := by have := ha.1; have := hG.wf.1; omega
      have hkt : t.2[k]? = some t.2[k] := List.getElem?_eq_getElem hkl
      have hkb : bs[k]? = some bs[k] := List.getElem?_eq_getElem (by rw [hbl]; exact hkl)
      have hgk := hG.kid hkt
      refine (put_nd d (put_all d) w nd n cap n' cap' a a' t.1 t.2 bs x k bs[k] t.2[k] hN hm hn hC ha hi hK hCK hks hG.wf.2 hG.wf.1 hkt hkb hgk.1 hgk.2).mono ?_
      rintro e w' ⟨b, y, r, H, rfl, h1, h2, h3⟩
      refine ⟨b, y, r, H, rfl, h1, ⟨?_, h2.out.2⟩, h3⟩
      rw [h2.out.1]
      obtain ⟨A, B, e, hA, hB, hLA, hGB, _⟩ := node_at hG.wf.1 hr hrp ha hkt hi
      show _ = insP (inter (t.2.map (tl d)) t.1) x
      rw [e, insP_mid hLA hGB, hA, hB]
#print axioms put_all
end Go.Proofs.Ytnagknlfboadkaa.Oct
