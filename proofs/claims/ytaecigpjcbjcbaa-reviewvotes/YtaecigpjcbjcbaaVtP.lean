/-
  Layer 20 (review): ReviewVotes: what its loop keeps.
-/
import Derived.Test.YtaecigpjcbjcbaaVrg
import Derived.Test.YtaecigpjcbjcbaaFew
namespace Go.Proofs.Ytaecigpjcbjcbaa.Oct
open Go.RowKit
set_option linter.unusedSimpArgs false
set_option linter.unusedVariables false

def z8 (zl : List (BA × Bool)) : List Value := zl.map fun z => .string z.1
def z9 (zl : List (BA × Bool)) : List Value := zl.map fun z => .bool z.2
structure VI (w wr : World) (b : Nat) (M : Br) (K : Nat) (zl : List (BA × Bool)) (v8 v9 : Value) : Prop where
  brd : BAt wr b M K
  bel : Below w.heap.size w wr
  blo : ∀ j ∈ M.bl b, w.heap.size ≤ j
  r8 : OT w.heap.size wr 9 v8 (z8 zl)
  r9 : OT w.heap.size wr 4 v9 (z9 zl)
  apart : ∀ k, v8.ownBlock = some k → v9.ownBlock = some k → False
  n8 : ∀ k, v8.ownBlock = some k → k ∉ M.bl b
  n9 : ∀ k, v9.ownBlock = some k → k ∉ M.bl b
  nz : zl.length ≤ K
theorem VI.below {w wr wr' : World} {b K : Nat} {M : Br} {zl : List (BA × Bool)} {v8 v9 : Value} (h : VI w wr b M K zl v8 v9) (hb : Below wr.heap.size wr wr') : VI w wr' b M K zl v8 v9 :=
  ⟨h.brd.below hb, below_tr h.bel hb, h.blo, h.r8.below hb, h.r9.below hb, h.apart, h.n8, h.n9, h.nz⟩
theorem VI.more {w wr : World} {b K : Nat} {M : Br} {zl : List (BA × Bool)} {v8 v9 : Value} (h : VI w wr b M K zl v8 v9) (hK : K + 1 ≤ 1000) : VI w wr b M (K + 1) zl v8 v9 :=
  ⟨h.brd.more hK, h.bel, h.blo, h.r8, h.r9, h.apart, h.n8, h.n9, Nat.le_succ_of_le h.nz⟩
theorem VI.call {w wr wr' : World} {b K : Nat} {M M' : Br} {zl : List (BA × Bool)} {v8 v9 : Value} (h : VI w wr b M K zl v8 v9) (hB : BAt wr' b M' (K + 1)) (ha : BAfter wr b M M' wr') : VI w wr' b M' (K + 1) zl v8 v9 := by
  have h1 := ha.below h.bel.size h.blo
  exact ⟨hB, h.bel.trans h1.1, h1.2, h.r8.same fun g hg => (ha.other (h.r8.lt hg).2 (h.n8 g hg)).1, h.r9.same fun g hg => (ha.other (h.r9.lt hg).2 (h.n9 g hg)).1, h.apart, fun g hg => (ha.other (h.r8.lt hg).2 (h.n8 g hg)).2.1, fun g hg => (ha.other (h.r9.lt hg).2 (h.n9 g hg)).2.1, Nat.le_succ_of_le h.nz⟩
theorem z8_len (zl : List (BA × Bool)) : (z8 zl).length = zl.length := List.length_map _
theorem z9_len (zl : List (BA × Bool)) : (z9 zl).length = zl.length := List.length_map _
theorem VI.read {w wr : World} {b K : Nat} {M : Br} {zl : List (BA × Bool)} {v8 v9 : Value} (h : VI w wr b M K zl v8 v9) : ∃ a8 k8 a9 k9, v8 = .slice a8 zl.length k8 ∧ v9 = .slice a9 zl.length k9 ∧ zl.length ≤ k8 ∧ zl.length ≤ k9 := by
  obtain ⟨a8, k8, e8, h8, _⟩ := h.r8.read
  obtain ⟨a9, k9, e9, h9, _⟩ := h.r9.read
  rw [z8_len] at e8 h8
  rw [z9_len] at e9 h9
  exact ⟨a8, k8, a9, k9, e8, e9, h8, h9⟩
/-- where the rows lie, and what an element is -/
theorem VI.at {w wr : World} {b K m k8 k9 : Nat} {M : Br} {zl : List (BA × Bool)} {a8 a9 : Option Addr} (h : VI w wr b M K zl (.slice a8 m k8) (.slice a9 m k9)) {j : Nat} {z : BA × Bool} (hz : zl[j]? = some z) : ∃ g8 g9, a8 = some ⟨g8, 0, none⟩ ∧ a9 = some ⟨g9, 0, none⟩ ∧ g8 < wr.heap.size ∧ g9 < wr.heap.size ∧ wr.cell? ⟨g8, j, none⟩ = some (.string z.1) ∧ wr.cell? ⟨g9, j, none⟩ = some (.bool z.2) := by
  have hlt := (List.getElem?_eq_some_iff.1 hz).1
  obtain ⟨x8, y8, e8, _, _, f8⟩ := h.r8.read
  obtain ⟨x9, y9, e9, _, _, f9⟩ := h.r9.read
  have e8' : a8 = x8 := by cases e8; rfl
  have e9' : a9 = x9 := by cases e9; rfl
  subst e8'
  subst e9'
  obtain ⟨g8, L8, rfl, hb8, _, t8⟩ := f8 (by rw [z8_len]; omega)
  obtain ⟨g9, L9, rfl, hb9, _, t9⟩ := f9 (by rw [z9_len]; omega)
  exact ⟨g8, g9, rfl, rfl, hb8.lt, hb9.lt, hb8.cell (take_get t8 (by unfold z8; rw [List.getElem?_map, hz]; rfl)), hb9.cell (take_get t9 (by unfold z9; rw [List.getElem?_map, hz]; rfl))⟩
/-- behind region 24 -/
theorem VI.app {w A V : World} {b K : Nat} {M : Br} {zl : List (BA × Bool)} {v8 v9 a8 a9 : Value} {u : BA} {y : Bool} (h : VI w A b M K zl v8 v9) (hK : zl.length + 1 ≤ K) (hr : R24 w.heap.size A V v8 v9 a8 a9 (z8 zl ++ [.string u]) (z9 zl ++ [.bool y]) []) : VI w V b M K (zl ++ [(u, y)]) a8 a9 := by
  have hn : ∀ k ∈ M.bl b, ¬ SV v8 v9 k := fun k hk hs => hs.elim (fun e => h.n8 k e hk) (fun e => h.n9 k e hk)
  refine ⟨h.brd.keep hr.keep hn, h.bel.trans (hr.keep.toBelow h.bel.size (fun k hs => hs.elim (fun e => (h.r8.lt e).1) (fun e => (h.r9.lt e).1))), h.blo, ?_, ?_, hr.apart, ?_, ?_, by rw [List.length_append]; exact hK⟩
  · unfold z8; rw [List.map_append]; exact hr.r8
  · unfold z9; rw [List.map_append]; exact hr.r9
  · intro k hk hm
    rcases hr.p8 k hk with e | e
    · exact h.n8 k e hm
    · have := h.brd.lt k hm; omega
  · intro k hk hm
    rcases hr.p9 k hk with e | e
    · exact h.n9 k e hm
    · have := h.brd.lt k hm; omega
theorem VI.r24 {w A : World} {b K : Nat} {M : Br} {zl : List (BA × Bool)} {v8 v9 : Value} (h : VI w A b M K zl v8 v9) : R24 w.heap.size A A v8 v9 v8 v9 (z8 zl) (z9 zl) [] :=
  ⟨h.r8, h.r9, h.apart, fun _ hk => .inl hk, fun _ hk => .inl hk, Keep.refl _ _, h.bel.size, fun p hp => by cases hp⟩
/-- behind region 26 -/
theorem VI.put {w A : World} {b K m k8 k9 g9 : Nat} {M : Br} {zl : List (BA × Bool)} {a8 : Option Addr} (h : VI w A b M K zl (.slice a8 m k8) (.slice (some ⟨g9, 0, none⟩) m k9)) {j : Nat} {z : BA × Bool} (hz : zl[j]? = some z) (y : Bool) : VI w (A.setCell ⟨g9, j, none⟩ (.bool y)) b M K (zl.set j (z.1, y)) (.slice a8 m k8) (.slice (some ⟨g9, 0, none⟩) m k9) := by
  have hg : A.grownBy (A.setCell ⟨g9, j, none⟩ (.bool y)) (some g9) := grown_setCell _ _ _ _
  have e8 : z8 (zl.set j (z.1, y)) = z8 zl := by
    have := congrArg (List.map Value.string) (set_fst hz y)
    rw [List.map_map, List.map_map] at this
    exact this
  have e9 : z9 (zl.set j (z.1, y)) = (z9 zl).set j (.bool y) := by unfold z9; rw [List.map_set]
  refine ⟨h.brd.same fun k hk => hg.block k (h.brd.lt k hk) (fun e => h.n9 k (by cases e; rfl) hk), h.bel.grown hg h.bel.size (fun k hk => by cases hk; exact (h.r9.lt rfl).1), h.blo, ?_, ?_, h.apart, h.n8, h.n9, by rw [List.length_set]; exact h.nz⟩
  · rw [e8]
    exact h.r8.same fun k hk => hg.block k (h.r8.lt hk).2 (fun e => h.apart k hk (by cases e; rfl))
  · rw [e9]
    exact h.r9.set j (.bool y)
/-- behind region 32 -/
theorem VI.cut {w A V : World} {b K m k8 k9 g8 g9 i : Nat} {M : Br} {zl : List (BA × Bool)} {a8 a9 : Value} (h : VI w A b M K zl (.slice (some ⟨g8, 0, none⟩) m k8) (.slice (some ⟨g9, 0, none⟩) m k9)) (hr : Cut32 w.heap.size A V g8 g9 i (z8 zl) (z9 zl) a8 a9) : VI w V b M K (zl.eraseIdx i) a8 a9 := by
  obtain ⟨h1, h2, h3, h4, h5, h6⟩ := hr
  have em : ∀ {β : Type} (f : BA × Bool → β), (zl.map f).eraseIdx i = (zl.eraseIdx i).map f := fun f => by rw [List.eraseIdx_eq_take_drop_succ, List.eraseIdx_eq_take_drop_succ, List.map_append, List.map_take, List.map_drop]
  refine ⟨h.brd.below h6, below_tr h.bel h6, h.blo, ?_, ?_, h3, ?_, ?_, Nat.le_trans (List.eraseIdx_sublist zl i).length_le h.nz⟩
  · unfold z8; rw [← em]; exact h1
  · unfold z9; rw [← em]; exact h2
  · intro k hk hm
    rcases h4 k hk with e | e
    · subst e; exact h.n8 k rfl hm
    · have := h.brd.lt k hm; omega
  · intro k hk hm
    rcases h5 k hk with e | e
    · subst e; exact h.n9 k rfl hm
    · have := h.brd.lt k hm; omega
/-- the one proposal -/
def OM (M : Br) (au : BA) (vs : List (Hs × Int)) : Prop := ∃ p, M.props = [p] ∧ M.opn = [1] ∧ p.author = au ∧ p.votes = vs
theorem OM.at {M : Br} {au : BA} {vs : List (Hs × Int)} (h : OM M au vs) : ∃ p, M.at? 1 = some p ∧ hasN M.opn 1 = true ∧ p.author = au ∧ p.votes = vs := by
  obtain ⟨p, h1, h2, h3, h4⟩ := h
  exact ⟨p, by unfold Br.at?; rw [h1]; rfl, by rw [h2]; rfl, h3, h4⟩
theorem OM.turn {M : Br} {au : BA} {vs : List (Hs × Int)} {p : Pr} (h : M.props = [p] ∧ M.opn = [1] ∧ p.author = au ∧ p.votes = vs) (u : Hs) (k : Int) : OM (M.turn 0 p u k) au (turnV vs u k) :=
  ⟨{ p with votes := turnV p.votes u k }, by show M.props.set 0 _ = _; rw [h.1]; rfl, h.2.1, h.2.2.1, by show turnV p.votes u k = _; rw [h.2.2.2]⟩
theorem OM.vote_own {M : Br} {au : BA} {vs : List (Hs × Int)} (h : OM M au vs) (y : Bool) : M.vote 1 au y = (M, 200) := by
  obtain ⟨p, h1, h2, h3, h4⟩ := h.at
  unfold Br.vote
  rw [h1]
  simp only [h2, Bool.true_eq_false, if_false, h3, if_true]
theorem OM.vote {M : Br} {au : BA} {vs : List (Hs × Int)} (h : OM M au vs) {u : BA} (hu : u ≠ au) (y : Bool) : ∃ M', M.vote 1 u y = (M', 0) ∧ OM M' au (turnV vs (bk u) (kOf y)) := by
  have h' := h
  obtain ⟨p, h0⟩ := h'
  have h1 : M.at? 1 = some p := by unfold Br.at?; rw [h0.1]; rfl
  have h2 : hasN M.opn 1 = true := by rw [h0.2.1]; rfl
  refine ⟨M.turn 0 p (bk u) (kOf y), ?_, OM.turn h0 _ _⟩
  unfold Br.vote
  rw [h1]
  simp only [h2, Bool.true_eq_false, if_false, h0.2.2.1, hu]
  rfl
theorem OM.unvote {M : Br} {au : BA} {vs : List (Hs × Int)} (h : OM M au vs) (u : BA) : ∃ M', M.unvote 1 u = (M', turnE vs (bk u) 0) ∧ OM M' au (turnV vs (bk u) 0) := by
  have h' := h
  obtain ⟨p, h0⟩ := h'
  have h1 : M.at? 1 = some p := by unfold Br.at?; rw [h0.1]; rfl
  have h2 : hasN M.opn 1 = true := by rw [h0.2.1]; rfl
  refine ⟨M.turn 0 p (bk u) 0, ?_, OM.turn h0 _ _⟩
  unfold Br.unvote
  rw [h1]
  simp only [h2, Bool.true_eq_false, if_false, h0.2.2.2]
  try rfl
theorem Rv.none {au : BA} {votes : List (Hs × Int)} {zl : List (BA × Bool)} (h : Rv au votes zl) {u : BA} (hu : u ∉ zl.map (·.1)) : Rv au (turnV votes (bk u) 0) zl ∧ turnE votes (bk u) 0 = 111 := by
  refine ⟨⟨by unfold turnV; rw [if_pos rfl]; exact h.out_no hu, h.nodup, h.au⟩, ?_⟩
  have hv0 : Oct.voted votes (bk u) = false := by
    cases hv : Oct.voted votes (bk u)
    · rfl
    · exact absurd ((h.voted u).1 hv) hu
  unfold turnE
  rw [if_pos ⟨rfl, hv0⟩]
theorem Rv.some {au : BA} {votes : List (Hs × Int)} {zl : List (BA × Bool)} (h : Rv au votes zl) {i : Nat} {z : BA × Bool} (hz : zl[i]? = some z) : turnE votes (bk z.1) 0 = 0 := by
  unfold turnE
  rw [if_neg]
  rintro ⟨_, hv⟩
  rw [(h.voted z.1).2 (List.mem_map.2 ⟨z, List.mem_of_getElem? hz, rfl⟩)] at hv
  cases hv
/-- what the search found -/
def Fd (zl : List (BA × Bool)) (u : BA) (j : Nat) (v : Value) : Prop := (v = iv (-1) ∧ ∀ k z, k < j → zl[k]? = some z → z.1 ≠ u) ∨ ∃ k z, k < j ∧ zl[k]? = some z ∧ z.1 = u ∧ v = iv (k : Int)
theorem Fd.yes {zl : List (BA × Bool)} {u : BA} {j : Nat} {z : BA × Bool} (hz : zl[j]? = some z) (h : z.1 = u) : Fd zl u (j + 1) (iv (j : Int)) := .inr ⟨j, z, by omega, hz, h, rfl⟩
theorem Fd.no {zl : List (BA × Bool)} {u : BA} {j : Nat} {v : Value} {z : BA × Bool} (hf : Fd zl u j v) (hz : zl[j]? = some z) (h : z.1 ≠ u) : Fd zl u (j + 1) v := by
  rcases hf with ⟨e, hf⟩ | ⟨k, z', h1, h2⟩
  · refine .inl ⟨e, fun k z' hk hz' => ?_⟩
    rcases Nat.lt_or_eq_of_le (Nat.le_of_lt_succ hk) with h1 | h1
    · exact hf k z' h1 hz'
    · subst h1; rw [hz] at hz'; cases hz'; exact h
  · exact .inr ⟨k, z', by omega, h2⟩
theorem Fd.end {zl : List (BA × Bool)} {u : BA} {v : Value} {m : Nat} (hm : zl.length = m) (h : Fd zl u m v) : (v = iv (-1) ∧ u ∉ zl.map (·.1)) ∨ ∃ (k : Nat) (z : BA × Bool), zl[k]? = some z ∧ z.1 = u ∧ v = iv (k : Int) ∧ k < m := by
  rcases h with ⟨e, h⟩ | ⟨k, z, h1, h2, h3, h4⟩
  · refine .inl ⟨e, fun hu => ?_⟩
    obtain ⟨z, hz, rfl⟩ := List.mem_map.1 hu
    obtain ⟨k, hk, hk'⟩ := List.mem_iff_getElem.1 hz
    exact h k z (by omega) (by rw [List.getElem?_eq_getElem hk, hk']) rfl
  · exact .inr ⟨k, z, h2, h3, h4, h1⟩
theorem withB_len (s : BA) : ∀ l : List BA, (withB s l).length ≤ l.length + 1
  | [] => by simp [withB]
  | x :: l => by
    have := withB_len s l
    unfold withB
    split
    · simp; omega
    · split <;> simp
theorem foldW_len (l : List BA) : (foldW l).length ≤ l.length := by
  generalize hn : l.length = n
  induction n generalizing l with
  | zero => rw [List.eq_nil_of_length_eq_zero hn]; simp [foldW]
  | succ n ih =>
    obtain ⟨l', s, rfl⟩ : ∃ l' s, l = l' ++ [s] := ⟨l.dropLast, l.getLast (fun e => by rw [e] at hn; cases hn), (List.dropLast_concat_getLast _).symm⟩
    rw [foldW_snoc]
    have h1 := ih l' (by simpa using hn)
    have h2 := withB_len s (foldW l')
    omega
theorem side_len (zl : List (BA × Bool)) (so : Bool) : (side zl so).length ≤ zl.length := by unfold side; rw [List.length_map]; exact List.length_filter_le _ _
theorem mk_bk (l : List BA) {ks : List Hs} (h : l.map bk = ks) : ks.map (fun x => (⟨x.toArray⟩ : BA)) = l := by
  subst h
  rw [List.map_map]
  refine (List.map_congr_left fun x _ => ?_).trans (List.map_id _)
  show (⟨(bk x).toArray⟩ : BA) = x
  unfold bk
  simp
theorem names_strs {B : Nat} {w : World} {s : Sl} {ks : List Hs} {l : List BA} (h : Names B w s ks) (hl : l.map bk = ks) : Strs w s.a s.n l := by
  have hm := mk_bk l hl
  have e : ks.map hv = strC l := by rw [← hm]; simp [strC, hv, List.map_map]
  unfold Names at h
  rw [e] at h
  obtain ⟨s', e', h1, h2, _⟩ := (TS.own h).sl
  have : s' = s := by cases s; cases s'; cases e'; rfl
  rw [← this]; exact h1
theorem TS.other {w : World} {v : Value} {zl : List (BA × Bool)} {j : Nat} {z : BA × Bool} {so : Bool} (h : TS w v (foldW (side (zl.take j) so))) (hz : zl[j]? = some z) (hb : z.2 ≠ so) : TS w v (foldW (side (zl.take (j + 1)) so)) := by
  have e : zl.take (j + 1) = zl.take j ++ [z] := by rw [List.take_add_one, hz]; rfl
  rw [e, side_snoc, if_neg hb]
  exact h
theorem TS.mine {w : World} {v : Value} {zl : List (BA × Bool)} {j : Nat} {z : BA × Bool} {so : Bool} (h : TS w v (withB z.1 (foldW (side (zl.take j) so)))) (hz : zl[j]? = some z) (hb : z.2 = so) : TS w v (foldW (side (zl.take (j + 1)) so)) := by
  have e : zl.take (j + 1) = zl.take j ++ [z] := by rw [List.take_add_one, hz]; rfl
  rw [e, side_snoc, if_pos hb]
  exact h
theorem TS.all {w : World} {v : Value} {zl : List (BA × Bool)} {j m : Nat} {so : Bool} (h : TS w v (foldW (side (zl.take j) so))) (hj : j = m) (hm : zl.length = m) : TS w v (foldW (side zl so)) := by
  have e : zl.take j = zl := by rw [hj, ← hm, List.take_length]
  rw [e] at h
  exact h
theorem fold_small {zl : List (BA × Bool)} {K : Nat} (h : zl.length ≤ K) (hK : K ≤ 1000) (so : Bool) (j : Nat) : (foldW (side (zl.take j) so)).length ≤ 1000 ∧ (foldW (side zl so)).length ≤ 1000 := by
  have h1 := foldW_len (side (zl.take j) so)
  have h2 := side_len (zl.take j) so
  have h3 : (zl.take j).length ≤ zl.length := by rw [List.length_take]; omega
  have h4 := foldW_len (side zl so)
  have h5 := side_len zl so
  omega
theorem Rv.names {au : BA} {votes : List (Hs × Int)} {zl : List (BA × Bool)} (h : Rv au votes zl) {p : Pr} (hp : p.votes = votes) {B : Nat} {w : World} {y n : Sl} (hy : Names B w y (sortK (whoV p.votes 1))) (hn : Names B w n (sortK (whoV p.votes 2))) : Strs w y.a y.n (foldW (side zl true)) ∧ Strs w n.a n.n (foldW (side zl false)) := by
  subst hp
  exact ⟨names_strs hy (h.told true), names_strs hn (h.told false)⟩
#print axioms TS.all
#print axioms Rv.names
#print axioms VI.app
#print axioms VI.put
#print axioms VI.cut
#print axioms OM.unvote
#print axioms Fd.end
#print axioms names_strs
end Go.Proofs.Ytaecigpjcbjcbaa.Oct
