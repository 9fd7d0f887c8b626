/-
  Layer 20 (review): Vote, Unvote.
-/
import Derived.Test.YtaecigpjcbjcbaaTrn
namespace Go.Proofs.Ytaecigpjcbjcbaa.Oct
open Go.RowKit
set_option linter.unusedSimpArgs false

def Br.vote (M : Br) (x : Int) (u : BA) (yes : Bool) : Br × Int := match M.at? x with
  | none => (M, 111)
  | some p => if hasN M.opn x = false then (M, 201) else if u = p.author then (M, 200) else (M.turn (x - 1).toNat p (bk u) (if yes then 1 else 2), 0)
def Br.unvote (M : Br) (x : Int) (u : BA) : Br × Int := match M.at? x with
  | none => (M, 111)
  | some p => if hasN M.opn x = false then (M, 201) else (M.turn (x - 1).toNat p (bk u) 0, turnE p.votes (bk u) 0)
/-- what a call answers and leaves -/
def Did (w : World) (b K : Nat) (M : Br) (r : Br × Int) (e : Ending) (w' : World) : Prop := e = .returned (iv r.2) ∧ BAt w' b r.1 (K + 1) ∧ BAfter w b M r.1 w'
theorem turnE_no (l : List (Hs × Int)) (u : Hs) {k : Int} (h : k ≠ 0) : turnE l u k = 0 := by unfold turnE; rw [if_neg (by simp [h])]
theorem BAt.where {w : World} {b K : Nat} {M : Br} (h : BAt w b M K) {i g : Nat} {p : Pr} (hi : M.props[i]? = some p) (hg : M.pv.ownBlock = some g) :
    w.cell? ⟨g, i * 36, none⟩ = some (.string p.author) ∧ w.cell? ⟨g, i * 36 + 1, none⟩ = some (.string p.channel) ∧ w.rangeAt g (i * 36 + 2) (U p.patch) ∧ w.cell? ⟨g, i * 36 + 34, none⟩ = some (.map (some p.vb)) ∧ w.cell? ⟨g, i * 36 + 35, none⟩ = some p.tv ∧ g < w.heap.size ∧ g ≠ p.vb ∧ MP w p.vb (votesKv p.votes) ∧ p.patch.length = 32 := by
  obtain ⟨g', c, hv, hg', hnc, hpa⟩ := h.prop hi
  rw [hg] at hg'
  cases hg'
  have hm := List.mem_of_getElem? hi
  obtain ⟨a1, a2, a3, a4, a5⟩ := hpa.cell (h.each p hm).patch
  refine ⟨a1, a2, a3, a4, a5, hpa.1, ?_, (h.each p hm).votes, (h.each p hm).patch⟩
  rintro rfl
  exact (h.parts.2.1 p.vb hg).2 (List.mem_flatMap.2 ⟨p, hm, by simp [Pr.bl]⟩)
set_option maxRecDepth 100000 in
set_option maxHeartbeats 1000000 in
theorem vote_is {w : World} {b K : Nat} {M : Br} (h : BAt w b M K) (hK : K + 1 ≤ 1000) (x : Int) (u : BA) (hu : u.size ≤ 140737488355328) (yes : Bool) :
    Calls Try.prog 24 #[.pointer (some ⟨b, 0, none⟩), iv x, .string u, .bool yes] w (Did w b K M (M.vote x u yes)) := by
  have HF := findOpen_is h x
  have HA : Hid (BAt w b M K) := h
  have HK : Hid (K + 1 ≤ 1000) := hK
  have HU : Hid (u.size ≤ 140737488355328) := hu
  obtain ⟨r, hr⟩ : ∃ r, M.vote x u yes = r := ⟨_, rfl⟩
  rw [hr]
  have HR : Hid (M.vote x u yes = r) := hr
  clear h hK hu hr
  go_enter Try.func24, Try.ntmps24
  go_wp2_with fail
  refine HF.mono ?_
  rintro e w1 ⟨⟨h1, rfl⟩ | ⟨p, h1, h2, rfl⟩ | ⟨p, g, i, h1, h2, h3, h4, h5, rfl⟩, rfl⟩
  · have H : Hid (r = (M, 111)) := by show _ = _; rw [← HR.out]; unfold Br.vote; rw [h1]
    clear h1 HF HR
    go_wp2_with fail
    go_ret
    rw [H.out]
    exact ⟨rfl, HA.out.more HK.out, BAfter.refl _ _ _⟩
  · have H : Hid (r = (M, 201)) := by show _ = _; rw [← HR.out]; unfold Br.vote; rw [h1]; simp [h2]
    clear h1 h2 HF HR
    go_wp2_with fail
    go_ret
    rw [H.out]
    exact ⟨rfl, HA.out.more HK.out, BAfter.refl _ _ _⟩
  · obtain ⟨a1, a2, a3, a4, a5, a6, a7, a8, a9⟩ := HA.out.where h4 h5
    have HI : Hid (M.props[i]? = some p ∧ x = (i : Int) + 1) := ⟨h4, h3⟩
    by_cases hau : u = p.author
    · have H : Hid (r = (M, 200)) := by show _ = _; rw [← HR.out]; unfold Br.vote; rw [h1]; simp [h2, hau]
      have q1 : (u.toList == p.author.toList) = true := by rw [eq_iff]; simp [hau]
      clear h1 h2 h3 h4 h5 HF HR hau a2 a3 a4 a5 a6 a7 a8 a9
      go_wp2_with fail
      go_ret
      rw [H.out]
      exact ⟨rfl, HA.out.more HK.out, BAfter.refl _ _ _⟩
    · have q1 : (u.toList == p.author.toList) = false := by rw [eq_iff]; simp [hau]
      have HT : ∀ k, Hid (Calls Try.prog 49 #[.pointer (some ⟨g, i * 36, none⟩), .string u, iv k] w fun e w' => e = .returned (iv (turnE p.votes (bk u) k)) ∧ MP w' p.vb (votesKv (turnV p.votes (bk u) k)) ∧ w.grownBy w' (some p.vb) ∧ w'.heap.size = w.heap.size) := fun k => turn_is a4 a6 a7 a8 u HU.out k
      have HR2 : Hid (r = (M.turn i p (bk u) (if yes then 1 else 2), 0)) := by
        show _ = _
        rw [← HR.out]
        unfold Br.vote
        rw [h1]
        have e : (x - 1).toNat = i := by omega
        simp [h2, hau, e]
      clear h1 h2 h3 h4 h5 HF HR hau a2 a3 a4 a5 a6 a7 a8 a9
      cases yes with
      | true =>
        have HT1 := HT 1
        clear HT
        go_wp2_with fail
        refine HT1.out.mono ?_
        rintro e w1 ⟨rfl, k1, k2, k3⟩
        have HB : Hid (BAt w1 b (M.turn i p (bk u) 1) (K + 1) ∧ BAfter w b M (M.turn i p (bk u) 1) w1) := HA.out.turned HI.out.1 k1 k2 HK.out
        have e0 := turnE_no p.votes (bk u) (k := 1) (by decide)
        rw [e0]
        clear HT1 k1 k2 k3 e0
        go_wp2_with fail
        go_ret
        rw [HR2.out]
        exact ⟨rfl, HB.out.1, HB.out.2⟩
      | false =>
        have HT1 := HT 2
        clear HT
        go_wp2_with fail
        refine HT1.out.mono ?_
        rintro e w1 ⟨rfl, k1, k2, k3⟩
        have HB : Hid (BAt w1 b (M.turn i p (bk u) 2) (K + 1) ∧ BAfter w b M (M.turn i p (bk u) 2) w1) := HA.out.turned HI.out.1 k1 k2 HK.out
        have e0 := turnE_no p.votes (bk u) (k := 2) (by decide)
        rw [e0]
        clear HT1 k1 k2 k3 e0
        go_wp2_with fail
        go_ret
        rw [HR2.out]
        exact ⟨rfl, HB.out.1, HB.out.2⟩
#print axioms vote_is
set_option maxRecDepth 100000 in
set_option maxHeartbeats 1000000 in
theorem unvote_is {w : World} {b K : Nat} {M : Br} (h : BAt w b M K) (hK : K + 1 ≤ 1000) (x : Int) (u : BA) (hu : u.size ≤ 140737488355328) :
    Calls Try.prog 25 #[.pointer (some ⟨b, 0, none⟩), iv x, .string u] w (Did w b K M (M.unvote x u)) := by
  have HF := findOpen_is h x
  have HA : Hid (BAt w b M K) := h
  have HK : Hid (K + 1 ≤ 1000) := hK
  have HU : Hid (u.size ≤ 140737488355328) := hu
  obtain ⟨r, hr⟩ : ∃ r, M.unvote x u = r := ⟨_, rfl⟩
  rw [hr]
  have HR : Hid (M.unvote x u = r) := hr
  clear h hK hu hr
  go_enter Try.func25, Try.ntmps25
  go_wp2_with fail
  refine HF.mono ?_
  rintro e w1 ⟨⟨h1, rfl⟩ | ⟨p, h1, h2, rfl⟩ | ⟨p, g, i, h1, h2, h3, h4, h5, rfl⟩, rfl⟩
  · have H : Hid (r = (M, 111)) := by show _ = _; rw [← HR.out]; unfold Br.unvote; rw [h1]
    clear h1 HF HR
    go_wp2_with fail
    go_ret
    rw [H.out]
    exact ⟨rfl, HA.out.more HK.out, BAfter.refl _ _ _⟩
  · have H : Hid (r = (M, 201)) := by show _ = _; rw [← HR.out]; unfold Br.unvote; rw [h1]; simp [h2]
    clear h1 h2 HF HR
    go_wp2_with fail
    go_ret
    rw [H.out]
    exact ⟨rfl, HA.out.more HK.out, BAfter.refl _ _ _⟩
  · obtain ⟨a1, a2, a3, a4, a5, a6, a7, a8, a9⟩ := HA.out.where h4 h5
    have HI : Hid (M.props[i]? = some p ∧ x = (i : Int) + 1) := ⟨h4, h3⟩
    have HT : Hid (Calls Try.prog 49 #[.pointer (some ⟨g, i * 36, none⟩), .string u, iv 0] w fun e w' => e = .returned (iv (turnE p.votes (bk u) 0)) ∧ MP w' p.vb (votesKv (turnV p.votes (bk u) 0)) ∧ w.grownBy w' (some p.vb) ∧ w'.heap.size = w.heap.size) := turn_is a4 a6 a7 a8 u HU.out 0
    have HR2 : Hid (r = (M.turn i p (bk u) 0, turnE p.votes (bk u) 0)) := by
      show _ = _
      rw [← HR.out]
      unfold Br.unvote
      rw [h1]
      have e : (x - 1).toNat = i := by omega
      simp [h2, e]
    clear h1 h2 h3 h4 h5 HF HR a2 a3 a4 a5 a6 a7 a8 a9
    go_wp2_with fail
    refine HT.out.mono ?_
    rintro e w1 ⟨rfl, k1, k2, k3⟩
    have HB : Hid (BAt w1 b (M.turn i p (bk u) 0) (K + 1) ∧ BAfter w b M (M.turn i p (bk u) 0) w1) := HA.out.turned HI.out.1 k1 k2 HK.out
    generalize turnE p.votes (bk u) 0 = en at *
    clear HT k1 k2 k3
    go_wp2_with fail
    go_ret
    rw [HR2.out]
    exact ⟨rfl, HB.out.1, HB.out.2⟩
#print axioms unvote_is
end Go.Proofs.Ytaecigpjcbjcbaa.Oct
