/-
  Layer 20 (review): findOpen, turn, Vote, Unvote.
-/
import Derived.Test.YtaecigpjcbjcbaaFnd
namespace Go.Proofs.Ytaecigpjcbjcbaa.Oct
open Go.RowKit
set_option linter.unusedSimpArgs false

/-- what findOpen answers -/
def FindO (M : Br) (x : Int) (e : Ending) : Prop :=
  (M.at? x = none ∧ e = .returned (.tuple #[.pointer none, iv 111])) ∨ (∃ p, M.at? x = some p ∧ hasN M.opn x = false ∧ e = .returned (.tuple #[.pointer none, iv 201])) ∨
  ∃ (p : Pr) (g i : Nat), M.at? x = some p ∧ hasN M.opn x = true ∧ x = (i : Int) + 1 ∧ M.props[i]? = some p ∧ M.pv.ownBlock = some g ∧ e = .returned (.tuple #[.pointer (some ⟨g, i * 36, none⟩), iv 0])
set_option maxRecDepth 100000 in
theorem findOpen_is {w : World} {b K : Nat} {M : Br} (h : BAt w b M K) (x : Int) : Calls Try.prog 48 #[.pointer (some ⟨b, 0, none⟩), iv x] w fun e w' => FindO M x e ∧ w = w' := by
  have HF := find_is h x
  have HO := isOpen_is h x
  clear h
  cases ho : hasN M.opn x
  · rw [ho] at HO
    have HH : Hid (hasN M.opn x = false) := ho
    clear ho
    go_enter Try.func48, Try.ntmps48
    go_wp2_with fail
    refine HF.mono ?_
    rintro e w1 ⟨⟨h1, rfl⟩ | ⟨p, g, i, h1, h2, h3, h4, rfl⟩, rfl⟩
    · have H1 : Hid (M.at? x = none) := h1
      clear h1 HF
      go_wp2
      go_ret2
      exact ⟨.inl ⟨H1.out, rfl⟩, rfl⟩
    · have H1 : Hid (M.at? x = some p) := h1
      clear h1 h2 h3 h4 HF
      go_wp2_with (go_at_call 40; refine HO.mono ?_; rintro e w1 ⟨rfl, rfl⟩)
      go_ret2
      exact ⟨.inr (.inl ⟨p, H1.out, HH.out, rfl⟩), rfl⟩
  · rw [ho] at HO
    have HH : Hid (hasN M.opn x = true) := ho
    clear ho
    go_enter Try.func48, Try.ntmps48
    go_wp2_with fail
    refine HF.mono ?_
    rintro e w1 ⟨⟨h1, rfl⟩ | ⟨p, g, i, h1, h2, h3, h4, rfl⟩, rfl⟩
    · have H1 : Hid (M.at? x = none) := h1
      clear h1 HF
      go_wp2
      go_ret2
      exact ⟨.inl ⟨H1.out, rfl⟩, rfl⟩
    · have H1 : Hid (M.at? x = some p ∧ x = (i : Int) + 1 ∧ M.props[i]? = some p ∧ M.pv.ownBlock = some g) := ⟨h1, h2, h3, h4⟩
      clear h1 h2 h3 h4 HF
      go_wp2_with (go_at_call 40; refine HO.mono ?_; rintro e w1 ⟨rfl, rfl⟩)
      go_ret2
      exact ⟨.inr (.inr ⟨p, g, i, H1.out.1, HH.out, H1.out.2.1, H1.out.2.2.1, H1.out.2.2.2, rfl⟩), rfl⟩
#print axioms findOpen_is
theorem zero89 (W : World) : (zeroValue 89).run Try.prog W = .ok (iv 0) W := by kernel_rfl
/-- has a user voted? -/
def voted (l : List (Hs × Int)) (u : Hs) : Bool := l.any fun r => r.1 == u
def outV (l : List (Hs × Int)) (u : Hs) : List (Hs × Int) := l.filter fun r => r.1 != u
theorem khas_votes (l : List (Hs × Int)) (u : Hs) : khas (votesKv l) u = voted l u := by
  unfold khas kget votesKv voted
  rw [List.find?_map, Option.isSome_map, Option.isSome_map, Bool.eq_iff_iff, List.find?_isSome, List.any_eq_true]
  rfl
theorem kdel_votes (l : List (Hs × Int)) (u : Hs) : kdel (votesKv l) u = votesKv (outV l u) := by
  unfold kdel votesKv outV
  rw [List.filter_map]
  rfl
theorem voted_out (l : List (Hs × Int)) (u : Hs) : voted (outV l u) u = false := by
  unfold voted outV
  rw [List.any_eq_false]
  intro r hr
  have := (List.mem_filter.1 hr).2
  simpa using this
theorem out_none {l : List (Hs × Int)} {u : Hs} (h : voted l u = false) : outV l u = l := by
  unfold voted at h
  rw [List.any_eq_false] at h
  exact List.filter_eq_self.2 fun r hr => by have := h r hr; simpa using this
theorem kput_out (l : List (Hs × Int)) (u : Hs) (k : Int) : kput (votesKv (outV l u)) u (iv k) = votesKv (outV l u ++ [(u, k)]) := by
  unfold kput
  rw [khas_votes, voted_out]
  simp [votesKv]
/-- the votes behind a turn -/
def turnV (l : List (Hs × Int)) (u : Hs) (k : Int) : List (Hs × Int) := if k = 0 then outV l u else outV l u ++ [(u, k)]
def turnE (l : List (Hs × Int)) (u : Hs) (k : Int) : Int := if k = 0 ∧ voted l u = false then 111 else 0
set_option maxRecDepth 100000 in
theorem turn_is {w : World} {g o vb : Nat} {l : List (Hs × Int)} (hc : w.cell? ⟨g, o + 34, none⟩ = some (.map (some vb))) (hgl : g < w.heap.size) (hne : g ≠ vb) (hm : MP w vb (votesKv l)) (u : BA) (hu : u.size ≤ 140737488355328) (k : Int) :
    Calls Try.prog 49 #[.pointer (some ⟨g, o, none⟩), .string u, iv k] w fun e w' => e = .returned (iv (turnE l (bk u) k)) ∧ MP w' vb (votesKv (turnV l (bk u) k)) ∧ w.grownBy w' (some vb) ∧ w'.heap.size = w.heap.size := by
  have hlk := hm.look2 (t := 85) (h := bk u) Try.underlying85 (len_max hu) (zero89 w)
  rw [hv_bk, khas_votes] at hlk
  generalize (kget (votesKv l) (bk u)).getD (iv 0) = x at hlk
  unfold turnE turnV
  cases hvt : voted l (bk u)
  · rw [hvt] at hlk
    have e0 := out_none hvt
    by_cases hk : k = 0
    · subst hk
      have H : Hid (MP w vb (votesKv (outV l (bk u)))) := by show MP _ _ _; rw [e0]; exact hm
      clear hm hvt e0
      simp only [and_self, if_true]
      go_enter Try.func49, Try.ntmps49
      go_wp2
      go_ret
      exact ⟨rfl, H.out, World.grownBy.refl _ _, rfl⟩
    · obtain ⟨w1, hrun, h1, h2, h3⟩ := hm.put (t := 85) (h := bk u) Try.underlying85 (len_max hu) (iv k)
      rw [hv_bk] at hrun
      have H : Hid (MP w1 vb (votesKv (outV l (bk u) ++ [(bk u, k)])) ∧ w.grownBy w1 (some vb) ∧ w1.heap.size = w.heap.size) := by
        refine ⟨?_, h2, h3⟩
        have e1 := kput_out l (bk u) k
        rw [e0] at e1
        rw [e0, ← e1]
        exact h1
      have q1 : (k == 0) = false := by simpa using hk
      have q2 : (k != 0) = true := by simpa using hk
      simp only [hk, false_and, if_false]
      clear hm hvt e0 h1 h2 h3 hk
      go_enter Try.func49, Try.ntmps49
      go_wp2
      go_ret
      exact ⟨rfl, H.out⟩
  · rw [hvt] at hlk
    obtain ⟨w1, hdel, h1, h2, h3⟩ := hm.del (t := 85) (h := bk u) Try.underlying85 (len_max hu) 0
    rw [hv_bk] at hdel
    rw [kdel_votes] at h1
    have hc1 : w1.cell? ⟨g, o + 34, none⟩ = some (.map (some vb)) := (World.cell?_of_block (a := ⟨g, o + 34, none⟩) (h2.block g hgl (by simpa using hne))).trans hc
    simp only [Bool.true_eq_false, and_false, if_false]
    by_cases hk : k = 0
    · subst hk
      have H : Hid (MP w1 vb (votesKv (outV l (bk u))) ∧ w.grownBy w1 (some vb) ∧ w1.heap.size = w.heap.size) := ⟨h1, h2, h3⟩
      clear hm hvt h1 h2 h3
      simp only [if_true]
      go_enter Try.func49, Try.ntmps49
      go_wp2
      go_ret
      exact ⟨rfl, H.out⟩
    · obtain ⟨w2, hrun, k1, k2, k3⟩ := h1.put (t := 85) (h := bk u) Try.underlying85 (len_max hu) (iv k)
      rw [hv_bk] at hrun
      rw [kput_out] at k1
      have H : Hid (MP w2 vb (votesKv (outV l (bk u) ++ [(bk u, k)])) ∧ w.grownBy w2 (some vb) ∧ w2.heap.size = w.heap.size) := ⟨k1, grown_tr h2 k2, by rw [k3, h3]⟩
      have q1 : (k == 0) = false := by simpa using hk
      have q2 : (k != 0) = true := by simpa using hk
      simp only [hk, if_false]
      clear hm hvt h1 h2 h3 hk k1 k2 k3
      go_enter Try.func49, Try.ntmps49
      go_wp2
      go_ret
      exact ⟨rfl, H.out⟩
#print axioms turn_is
/-- the votes of one proposal are turned -/
def Br.turn (M : Br) (i : Nat) (p : Pr) (u : Hs) (k : Int) : Br := { M with props := M.props.set i { p with votes := turnV p.votes u k } }
theorem flat_set {α β : Type} (f : α → List β) : ∀ (l : List α) (i : Nat) (p q : α), l[i]? = some p → f q = f p → (l.set i q).flatMap f = l.flatMap f
  | [], i, p, q, h, _ => by simp at h
  | x :: l, 0, p, q, h, e => by simp at h; subst h; simp [e]
  | x :: l, i + 1, p, q, h, e => by
    have := flat_set f l i p q (by simpa using h) e
    simp only [List.set_cons_succ, List.flatMap_cons, this]
theorem turnV_len (l : List (Hs × Int)) (u : Hs) (k : Int) : (turnV l u k).length ≤ l.length + 1 := by
  have h1 : (outV l u).length ≤ l.length := List.length_filter_le _ _
  unfold turnV
  split
  · omega
  · rw [List.length_append, List.length_singleton]; omega
theorem Br.turn_bl (M : Br) (b i : Nat) (p : Pr) (u : Hs) (k : Int) (hi : M.props[i]? = some p) : (M.turn i p u k).bl b = M.bl b := by
  have e := flat_set Pr.bl M.props i p { p with votes := turnV p.votes u k } hi rfl
  unfold Br.bl Br.turn
  simp only
  rw [e]
theorem nodup_flat {α : Type} (f : α → List Nat) : ∀ (l : List α) (i j : Nat) (x y : α), (l.flatMap f).Nodup → l[i]? = some x → l[j]? = some y → i ≠ j → ∀ k ∈ f x, k ∉ f y
  | [], i, j, x, y, _, h, _, _ => by simp at h
  | z :: l, 0, 0, x, y, _, _, _, hne => absurd rfl hne
  | z :: l, 0, j + 1, x, y, hn, hx, hy, _ => by
    simp at hx; subst hx
    rw [List.flatMap_cons, List.nodup_append] at hn
    intro k hk hk2
    exact hn.2.2 k hk k (List.mem_flatMap.2 ⟨y, List.mem_of_getElem? (by simpa using hy), hk2⟩) rfl
  | z :: l, i + 1, 0, x, y, hn, hx, hy, _ => by
    simp at hy; subst hy
    rw [List.flatMap_cons, List.nodup_append] at hn
    intro k hk hk2
    exact hn.2.2 k hk2 k (List.mem_flatMap.2 ⟨x, List.mem_of_getElem? (by simpa using hx), hk⟩) rfl
  | z :: l, i + 1, j + 1, x, y, hn, hx, hy, hne => by
    rw [List.flatMap_cons, List.nodup_append] at hn
    exact nodup_flat f l i j x y hn.2.1 (by simpa using hx) (by simpa using hy) (by omega)
section
variable {w w' : World} {b K : Nat} {M : Br}
theorem BAt.parts (h : BAt w b M K) : (b ∉ M.pv.ownBlock.toList ∧ b ∉ M.ov.ownBlock.toList ∧ b ∉ M.props.flatMap Pr.bl) ∧ (∀ g, M.pv.ownBlock = some g → M.ov.ownBlock ≠ some g ∧ g ∉ M.props.flatMap Pr.bl) ∧ (∀ g, M.ov.ownBlock = some g → g ∉ M.props.flatMap Pr.bl) ∧ (M.props.flatMap Pr.bl).Nodup := by
  have hn := h.apart
  unfold Br.bl at hn
  rw [List.nodup_cons] at hn
  obtain ⟨h1, h2⟩ := hn
  simp only [List.mem_append, not_or] at h1
  rw [List.nodup_append] at h2
  obtain ⟨_, h3, h4⟩ := h2
  rw [List.nodup_append] at h3
  obtain ⟨_, h5, h6⟩ := h3
  refine ⟨h1, fun g hg => ⟨fun ho => h4 g (by simp [hg]) g (by simp [ho]) rfl, fun hm => h4 g (by simp [hg]) g (List.mem_append.2 (.inr hm)) rfl⟩, fun g hg hm => h6 g (by simp [hg]) g hm rfl, h5⟩
/-- the votes of one proposal are turned, in memory -/
theorem BAt.turned (h : BAt w b M K) {i : Nat} {p : Pr} (hi : M.props[i]? = some p) {u : Hs} {k : Int} (hm : MP w' p.vb (votesKv (turnV p.votes u k))) (hg : w.grownBy w' (some p.vb)) (hK : K + 1 ≤ 1000) :
    BAt w' b (M.turn i p u k) (K + 1) ∧ BAfter w b M (M.turn i p u k) w' := by
  obtain ⟨p1, p2, p3, p4⟩ := h.parts
  have hmem : p ∈ M.props := List.mem_of_getElem? hi
  have hvb : p.vb ∈ M.props.flatMap Pr.bl := List.mem_flatMap.2 ⟨p, hmem, by simp [Pr.bl]⟩
  have hs : ∀ j, j < w.heap.size → j ≠ p.vb → w'.heap[j]? = w.heap[j]? := fun j hj hne => hg.block j hj (by simpa using hne)
  have hlen : (M.props.set i { p with votes := turnV p.votes u k }).length = M.props.length := List.length_set
  refine ⟨⟨?_, ?_, ?_, ?_, ?_, ?_, h.nopn, ?_, hK⟩, ?_, Keep.grown hg ?_⟩
  · exact (hs b h.blk.lt (fun e => p1.2.2 (e ▸ hvb))).trans h.blk
  · show Ow w' 87 36 M.pv (M.props.set i { p with votes := turnV p.votes u k }).length (propC (M.props.set i { p with votes := turnV p.votes u k }))
    rw [hlen, show propC (M.props.set i { p with votes := turnV p.votes u k }) = propC M.props from flat_set Pr.cells _ i p _ hi rfl]
    exact h.prow.same fun g hgg => hs g (h.prow.lt hgg) (fun e => (p2 g hgg).2 (e ▸ hvb))
  · exact h.orow.same fun g hgg => hs g (h.orow.lt hgg) (fun e => p3 g hgg (e ▸ hvb))
  · intro q hq
    obtain ⟨j, hj, hqj⟩ := List.mem_iff_getElem.1 hq
    have hjl : j < M.props.length := by rw [← hlen]; exact hj
    have hqs : (M.turn i p u k).props[j]? = some q := by rw [List.getElem?_eq_getElem hj, hqj]
    change (M.props.set i _)[j]? = some q at hqs
    rw [List.getElem?_set] at hqs
    by_cases hij : i = j
    · subst hij
      rw [if_pos rfl, if_pos hjl] at hqs
      cases hqs
      have hp := h.each p hmem
      refine ⟨hp.patch, hm, ?_, hp.talk.same fun g hgg => hs g (hp.talk.lt hgg) ?_, hp.ntalk⟩
      · have := turnV_len p.votes u k
        have := hp.nvotes
        show (turnV p.votes u k).length ≤ K + 1
        omega
      · rintro rfl
        have hn : (p.bl).Nodup := by
          obtain ⟨A, B, hAB⟩ := List.append_of_mem hmem
          rw [hAB, List.flatMap_append, List.flatMap_cons, List.nodup_append] at p4
          exact (List.nodup_append.1 p4.2.1).1
        unfold Pr.bl at hn
        rw [List.nodup_cons] at hn
        exact hn.1 (by simpa using hgg)
    · rw [if_neg hij] at hqs
      have hp := h.each q (List.mem_of_getElem? hqs)
      have hp' := hp.same (w' := w') fun j' hj' => hs j' (hp.lt j' hj') (fun e => nodup_flat Pr.bl M.props j i q p p4 hqs hi (Ne.symm hij) j' hj' (by rw [e]; simp [Pr.bl]))
      exact ⟨hp'.patch, hp'.votes, Nat.le_succ_of_le hp'.nvotes, hp'.talk, hp'.ntalk⟩
  · rw [Br.turn_bl M b i p u k hi]; exact h.apart
  · show (M.props.set i _).length ≤ K + 1
    rw [hlen]; exact Nat.le_succ_of_le h.nprops
  · intro x hx
    show _ ∧ x ≤ (M.props.set i _).length
    rw [hlen]; exact h.opn x hx
  · intro x hx
    rw [Br.turn_bl M b i p u k hi] at hx
    exact .inl hx
  · simp only [Br.bl, List.mem_cons, List.mem_append]
    exact .inr (.inr (.inr hvb))
theorem BAt.more (h : BAt w b M K) (hK : K + 1 ≤ 1000) : BAt w b M (K + 1) :=
  ⟨h.blk, h.prow, h.orow, fun p hp => let q := h.each p hp; ⟨q.patch, q.votes, Nat.le_succ_of_le q.nvotes, q.talk, q.ntalk⟩, h.apart, Nat.le_succ_of_le h.nprops, h.nopn, h.opn, hK⟩
end
#print axioms BAt.turned
end Go.Proofs.Ytaecigpjcbjcbaa.Oct
