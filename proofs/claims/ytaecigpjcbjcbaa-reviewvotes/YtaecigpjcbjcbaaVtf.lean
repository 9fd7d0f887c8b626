/-
  Layer 20 (review): ReviewVotes: plain facts.
-/
import Derived.Test.YtaecigpjcbjcbaaOpP
import Derived.Test.YtaecigpjcbjcbaaTxs
namespace Go.Proofs.Ytaecigpjcbjcbaa.Oct
open Go.RowKit
set_option linter.unusedSimpArgs false

def kOf (b : Bool) : Int := if b then 1 else 2
def im (z : BA × Bool) : Hs × Int := (bk z.1, kOf z.2)
/-- the votes as the law keeps them -/
structure Rv (au : BA) (votes : List (Hs × Int)) (zl : List (BA × Bool)) : Prop where
  perm : votes.Perm (zl.map im)
  nodup : (zl.map (·.1)).Nodup
  au : au ∉ zl.map (·.1)
theorem Rv.nil (au : BA) : Rv au [] [] := ⟨.nil, .nil, by simp⟩
theorem kOf_ne (b : Bool) : kOf b ≠ 0 := by cases b <;> decide
theorem Rv.voted {au : BA} {votes : List (Hs × Int)} {zl : List (BA × Bool)} (h : Rv au votes zl) (u : BA) : voted votes (bk u) = true ↔ u ∈ zl.map (·.1) := by
  unfold Oct.voted
  rw [h.perm.any_eq, List.any_eq_true, List.mem_map]
  constructor
  · rintro ⟨r, hr, he⟩
    obtain ⟨z, hz, rfl⟩ := List.mem_map.1 hr
    exact ⟨z, hz, bk_inj (by simpa [im] using he)⟩
  · rintro ⟨z, hz, rfl⟩
    exact ⟨im z, List.mem_map.2 ⟨z, hz, rfl⟩, by simp [im]⟩
theorem filter_im (u : BA) (zl : List (BA × Bool)) : (zl.map im).filter (fun r => r.1 != bk u) = (zl.filter fun z => decide (z.1 ≠ u)).map im := by
  rw [List.filter_map]
  congr 1
  refine List.filter_congr fun z _ => ?_
  by_cases h : z.1 = u
  · simp [im, h]
  · have : bk z.1 ≠ bk u := fun e => h (bk_inj e)
    simp [im, h, this]
theorem filter_erase : ∀ {zl : List (BA × Bool)} {i : Nat} {z : BA × Bool}, (zl.map (·.1)).Nodup → zl[i]? = some z → zl.filter (fun y => decide (y.1 ≠ z.1)) = zl.eraseIdx i
  | [], i, z, _, h => by simp at h
  | y :: l, 0, z, hn, h => by
    simp only [List.getElem?_cons_zero, Option.some.injEq] at h
    subst h
    rw [List.map_cons, List.nodup_cons] at hn
    rw [List.filter_cons_of_neg (by simp), List.eraseIdx_cons_zero, List.filter_eq_self.2]
    intro x hx
    have : x.1 ≠ y.1 := fun e => hn.1 (e ▸ List.mem_map.2 ⟨x, hx, rfl⟩)
    simpa using this
  | y :: l, i + 1, z, hn, h => by
    rw [List.getElem?_cons_succ] at h
    rw [List.map_cons, List.nodup_cons] at hn
    have hne : y.1 ≠ z.1 := fun e => hn.1 (e ▸ List.mem_map.2 ⟨z, List.mem_of_getElem? h, rfl⟩)
    rw [List.filter_cons_of_pos (by simpa using hne), List.eraseIdx_cons_succ, filter_erase hn.2 h]
theorem Rv.out {au : BA} {votes : List (Hs × Int)} {zl : List (BA × Bool)} (h : Rv au votes zl) {i : Nat} {z : BA × Bool} (hz : zl[i]? = some z) : (outV votes (bk z.1)).Perm ((zl.eraseIdx i).map im) := by
  have := h.perm.filter (fun r => r.1 != bk z.1)
  rw [filter_im, filter_erase h.nodup hz] at this
  exact this
theorem Rv.out_no {au : BA} {votes : List (Hs × Int)} {zl : List (BA × Bool)} (h : Rv au votes zl) {u : BA} (hu : u ∉ zl.map (·.1)) : (outV votes (bk u)).Perm (zl.map im) := by
  have := h.perm.filter (fun r => r.1 != bk u)
  have hs : zl.filter (fun z => decide (z.1 ≠ u)) = zl := List.filter_eq_self.2 (fun x hx => by
    have : x.1 ≠ u := fun e => hu (e ▸ List.mem_map.2 ⟨x, hx, rfl⟩)
    simpa using this)
  rw [filter_im, hs] at this
  exact this
theorem Rv.new {au : BA} {votes : List (Hs × Int)} {zl : List (BA × Bool)} (h : Rv au votes zl) {u : BA} (hu : u ∉ zl.map (·.1)) (ha : u ≠ au) (b : Bool) : Rv au (turnV votes (bk u) (kOf b)) (zl ++ [(u, b)]) := by
  refine ⟨?_, ?_, ?_⟩
  · unfold turnV
    rw [if_neg (kOf_ne b), List.map_append]
    exact (h.out_no hu).append_right _
  · rw [List.map_append]
    exact List.nodup_append.2 ⟨h.nodup, by simp, fun a h1 b h2 e => by simp at h2; subst h2; subst e; exact hu h1⟩
  · rw [List.map_append, List.mem_append]
    rintro (h1 | h1)
    · exact h.au h1
    · simp at h1; exact ha h1.symm
theorem perm_set {α : Type} : ∀ {l : List α} {i : Nat} {z : α} (x : α), l[i]? = some z → (l.set i x).Perm (l.eraseIdx i ++ [x])
  | [], i, z, x, h => by simp at h
  | y :: l, 0, z, x, _ => by
    rw [List.set_cons_zero, List.eraseIdx_cons_zero]
    exact (List.perm_append_comm (l₁ := [x]) (l₂ := l))
  | y :: l, i + 1, z, x, h => by
    rw [List.set_cons_succ, List.eraseIdx_cons_succ, List.cons_append]
    exact (perm_set x (by simpa using h)).cons _
theorem set_fst {zl : List (BA × Bool)} {i : Nat} {z : BA × Bool} (h : zl[i]? = some z) (b : Bool) : (zl.set i (z.1, b)).map (·.1) = zl.map (·.1) := by
  rw [List.map_set]
  refine List.ext_getElem? fun j => ?_
  rw [List.getElem?_set]
  split
  · rename_i e; subst e
    split
    · rw [List.getElem?_map, h]; rfl
    · rename_i hlt; rw [List.getElem?_eq_none (by omega)]
  · rfl
theorem Rv.set {au : BA} {votes : List (Hs × Int)} {zl : List (BA × Bool)} (h : Rv au votes zl) {i : Nat} {z : BA × Bool} (hz : zl[i]? = some z) (b : Bool) : Rv au (turnV votes (bk z.1) (kOf b)) (zl.set i (z.1, b)) := by
  refine ⟨?_, by rw [set_fst hz]; exact h.nodup, by rw [set_fst hz]; exact h.au⟩
  unfold turnV
  rw [if_neg (kOf_ne b)]
  refine ((h.out hz).append_right _).trans ?_
  have := ((perm_set (z.1, b) hz).map im).symm
  rwa [List.map_append] at this
theorem Rv.del {au : BA} {votes : List (Hs × Int)} {zl : List (BA × Bool)} (h : Rv au votes zl) {i : Nat} {z : BA × Bool} (hz : zl[i]? = some z) : Rv au (turnV votes (bk z.1) 0) (zl.eraseIdx i) := by
  have hs : ((zl.eraseIdx i).map (·.1)).Sublist (zl.map (·.1)) := (List.eraseIdx_sublist zl i).map _
  exact ⟨by unfold turnV; rw [if_pos rfl]; exact h.out hz, hs.nodup h.nodup, fun hm => h.au (hs.mem hm)⟩
/-- insertion keeps an order -/
theorem withB_mem {s y : BA} : ∀ {l : List BA}, y ∈ withB s l → y = s ∨ y ∈ l
  | [], h => by simp [withB] at h; exact .inl h
  | x :: l, h => by
    unfold withB at h
    split at h
    · rcases List.mem_cons.1 h with rfl | h
      · exact .inr List.mem_cons_self
      · exact (withB_mem h).imp id (List.mem_cons_of_mem _)
    · split at h
      · exact .inr h
      · rcases List.mem_cons.1 h with rfl | h
        · exact .inl rfl
        · exact .inr h
theorem withB_perm {s : BA} : ∀ {l : List BA}, s ∉ l → (withB s l).Perm (s :: l)
  | [], _ => .refl _
  | x :: l, h => by
    unfold withB
    split
    · exact ((withB_perm fun hm => h (List.mem_cons_of_mem _ hm)).cons x).trans (.swap _ _ _)
    · rw [if_neg (fun e => h (by rw [e]; exact List.mem_cons_self))]
theorem withB_sorted {s : BA} : ∀ {l : List BA}, l.Pairwise (fun a b => bk a < bk b) → (withB s l).Pairwise (fun a b => bk a < bk b)
  | [], _ => by simp [withB]
  | x :: l, h => by
    rw [List.pairwise_cons] at h
    unfold withB
    split
    · rename_i hlt
      rw [List.pairwise_cons]
      refine ⟨fun y hy => ?_, withB_sorted h.2⟩
      rcases withB_mem hy with rfl | hy
      · exact hlt
      · exact h.1 y hy
    · rename_i hge
      split
      · exact List.pairwise_cons.2 h
      · rename_i hne
        have hlt : bk s < bk x := by
          rcases Classical.em (bk s < bk x) with h1 | h1
          · exact h1
          · exact absurd (bk_inj (List.le_antisymm h1 hge)) hne
        rw [List.pairwise_cons]
        refine ⟨fun y hy => ?_, List.pairwise_cons.2 h⟩
        rcases List.mem_cons.1 hy with rfl | hy
        · exact hlt
        · exact List.lt_trans hlt (h.1 y hy)
def foldW (l : List BA) : List BA := l.foldl (fun acc s => withB s acc) []
theorem foldW_snoc (l : List BA) (s : BA) : foldW (l ++ [s]) = withB s (foldW l) := by unfold foldW; rw [List.foldl_append]; rfl
theorem foldW_ok : ∀ {l : List BA}, l.Nodup → (foldW l).Perm l ∧ (foldW l).Pairwise (fun a b => bk a < bk b) := by
  intro l
  generalize hn : l.length = n
  induction n generalizing l with
  | zero => intro _; rw [List.eq_nil_of_length_eq_zero hn]; exact ⟨.nil, .nil⟩
  | succ n ih =>
    intro h
    obtain ⟨l', s, rfl⟩ : ∃ l' s, l = l' ++ [s] := ⟨l.dropLast, l.getLast (fun e => by rw [e] at hn; cases hn), (List.dropLast_concat_getLast _).symm⟩
    rw [List.nodup_append] at h
    obtain ⟨h1, h2⟩ := ih (by simpa using hn) h.1
    rw [foldW_snoc]
    have hs : s ∉ foldW l' := fun hm => h.2.2 s (h1.mem_iff.1 hm) s (by simp) rfl
    exact ⟨(withB_perm hs).trans ((h1.cons s).trans (List.perm_append_comm (l₁ := [s]))), withB_sorted h2⟩
def side (zl : List (BA × Bool)) (so : Bool) : List BA := (zl.filter fun z => z.2 == so).map (·.1)
theorem kOf_beq (a b : Bool) : (kOf a == kOf b) = (a == b) := by cases a <;> cases b <;> rfl
theorem Rv.told {au : BA} {votes : List (Hs × Int)} {zl : List (BA × Bool)} (h : Rv au votes zl) (so : Bool) : (foldW (side zl so)).map bk = sortK (whoV votes (kOf so)) := by
  have hnd : (side zl so).Nodup := (List.Sublist.map (fun z : BA × Bool => z.1) (List.filter_sublist (l := zl) (p := fun z : BA × Bool => z.2 == so))).nodup h.nodup
  obtain ⟨h1, h2⟩ := foldW_ok hnd
  have hp : (whoV votes (kOf so)).Perm ((side zl so).map bk) := by
    have h3 := (h.perm.filter (fun r => r.2 == kOf so)).map (·.1)
    rw [List.filter_map, List.map_map] at h3
    unfold whoV side
    rw [List.map_map]
    have e : ((fun r : Hs × Int => r.2 == kOf so) ∘ im) = fun z => z.2 == so := funext fun z => by simp [im, kOf_beq]
    rw [e] at h3
    exact h3
  unfold sortK
  refine List.Perm.eq_of_pairwise (le := fun x y : Hs => x ≤ y) (fun a b _ _ hab hba => List.le_antisymm hab hba) ?_ ?_ ((h1.map bk).trans (hp.symm.trans (List.mergeSort_perm _ _).symm))
  · rw [List.pairwise_map]
    exact h2.imp fun hlt => List.le_of_lt hlt
  · have := List.pairwise_mergeSort (le := fun x y : Hs => decide (x ≤ y)) (fun a b c h1 h2 => by simp only [decide_eq_true_iff] at *; exact List.le_trans h1 h2) (fun a b => by simp only [Bool.or_eq_true, decide_eq_true_iff]; exact List.le_total a b) (whoV votes (kOf so))
    exact this.imp fun h => by simpa using h
theorem side_snoc (zl : List (BA × Bool)) (z : BA × Bool) (so : Bool) : foldW (side (zl ++ [z]) so) = if z.2 = so then withB z.1 (foldW (side zl so)) else foldW (side zl so) := by
  unfold side
  rw [List.filter_append, List.map_append]
  cases h : z.2 == so
  · have e : [z].filter (fun z => z.2 == so) = [] := by simp [h]
    rw [e, if_neg (by simpa using h)]; simp
  · have e : [z].filter (fun z => z.2 == so) = [z] := by simp [h]
    rw [e, if_pos (by simpa using h)]
    exact foldW_snoc _ _
#print axioms Rv.told
#print axioms Rv.set
#print axioms Rv.del
#print axioms side_snoc
end Go.Proofs.Ytaecigpjcbjcbaa.Oct
