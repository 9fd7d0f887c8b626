/-
  Layer 11 (lines): what an addition keeps, plain.
-/
import Derived.Test.YtjcihaohpbmogaaQpAT
/- Layer 11 (lines): what an addition keeps, plain. -/
namespace Go.Proofs.Ytjcihaohpbmogaa.Oct
open Go.RowKit
set_option maxRecDepth 100000
set_option linter.unusedSimpArgs false
set_option linter.unusedVariables false
set_option linter.unusedSectionVars false

def hasP (ps : List PL) (v : Vx) : Bool := isE v || decide (v ∈ keysP ps)
def ahdP (ps : List PL) (a b : Vx) : Prop := hasP ps a = true ∧ hasP ps b = true ∧ a ≠ b ∧ (a = vTop ∨ b = vBot ∨ (a ≠ vBot ∧ b ≠ vTop ∧ Gr.Reach (frsP ps) b a))
def addEP (ps : List PL) (AH : Bool) (up dn : Vx) (ids : List Vx) (tn : Nat) : Int :=
  if mayBe ids = false ∨ tn ≠ ids.length then 2 else if (ids.any fun v => decide (v ∈ keysP ps)) = true then 110 else if hasP ps up = false ∨ hasP ps dn = false then 111 else if AH = false then 112 else if 512 < ids.length + ps.length then 3 else 0
theorem has_ps (G : Gm) (v : Vx) : G.has v = hasP G.ps v := by unfold Gm.has hasP; rw [keys_ps]
theorem ahd_ps (G : Gm) (a b : Vx) : G.ahd a b ↔ ahdP G.ps a b := by unfold Gm.ahd ahdP; rw [has_ps, has_ps, frs_ps]
theorem addE_ps (G : Gm) (AH : Bool) (up dn : Vx) (ids : List Vx) (tn : Nat) : G.addE AH up dn ids tn = addEP G.ps AH up dn ids tn := by unfold Gm.addE addEP; rw [has_ps, has_ps, keys_ps, ls_ps]
structure AddOk (ps : List PL) (up dn : Vx) (ids : List Vx) (tn : Nat) : Prop where
  ne : ids ≠ []
  nd : ids.Nodup
  ends : ∀ v ∈ ids, isE v = false
  tn : tn = ids.length
  new : ∀ v ∈ ids, v ∉ keysP ps
  ahd : ahdP ps up dn
  few : ids.length + ps.length ≤ 512
theorem addE_zero {ps : List PL} {AH : Bool} {up dn : Vx} {ids : List Vx} {tn : Nat} (h : addEP ps AH up dn ids tn = 0) (hA : AH = true ↔ ahdP ps up dn) : AddOk ps up dn ids tn := by
  unfold addEP at h
  by_cases h1 : mayBe ids = false ∨ tn ≠ ids.length
  · rw [if_pos h1] at h; cases h
  rw [if_neg h1] at h
  by_cases h2 : (ids.any fun v => decide (v ∈ keysP ps)) = true
  · rw [if_pos h2] at h; cases h
  rw [if_neg h2] at h
  by_cases h3 : hasP ps up = false ∨ hasP ps dn = false
  · rw [if_pos h3] at h; cases h
  rw [if_neg h3] at h
  by_cases h4 : AH = false
  · rw [if_pos h4] at h; cases h
  rw [if_neg h4] at h
  by_cases h5 : 512 < ids.length + ps.length
  · rw [if_pos h5] at h; cases h
  obtain ⟨m1, m2, m3⟩ := (mayBe_iff ids).1 (by simpa using fun e => h1 (.inl e))
  refine ⟨m1, m2, m3, ?_, fun v hv hk => h2 ?_, hA.1 (by simpa using h4), by omega⟩
  · exact Classical.not_not.1 fun e => h1 (.inr e)
  · exact List.any_eq_true.2 ⟨v, hv, by simpa using hk⟩
theorem AddOk.zero {ps : List PL} {AH : Bool} {up dn : Vx} {ids : List Vx} {tn : Nat} (h : AddOk ps up dn ids tn) (hA : AH = true ↔ ahdP ps up dn) : addEP ps AH up dn ids tn = 0 := by
  unfold addEP
  have h1 := (mayBe_iff ids).2 ⟨h.ne, h.nd, h.ends⟩
  rw [if_neg (by simp [h1, h.tn]), if_neg (fun e => by
    obtain ⟨v, hv, hx⟩ := List.any_eq_true.1 e
    exact h.new v hv (by simpa using hx)), if_neg (by simp [h.ahd.1, h.ahd.2.1]), if_neg (by simp [hA.2 h.ahd]), if_neg (by have := h.few; omega)]
theorem frsP_mem {ps : List PL} {u v : Vx} (h : u ∈ frsP ps v) : ∃ q ∈ ps, q.v = v ∧ u ∈ q.fr := by
  unfold frsP at h
  cases e : getP ps v with
  | none => rw [e] at h; cases h
  | some q =>
    rw [e] at h
    exact ⟨q, (getP_some e).1, (getP_some e).2, h⟩
theorem frsP_of {ps : List PL} (hn : (keysP ps).Nodup) {q : PL} (h : q ∈ ps) : frsP ps q.v = q.fr := by
  unfold frsP
  rw [getP_of hn h]
theorem reach_lt {ps : List PL} {F : Vx → Nat} (hF : acyP ps F) {a b : Vx} (h : Gr.Reach (frsP ps) a b) : b ∈ keysP ps → F b < F a := by
  induction h with
  | one h =>
    intro hk
    obtain ⟨q, hq, rfl, hu⟩ := frsP_mem h
    exact hF q hq _ hu hk
  | more _ h ih =>
    intro hk
    obtain ⟨q, hq, rfl, hu⟩ := frsP_mem h
    exact Nat.lt_trans (hF q hq _ hu hk) (ih (List.mem_map.2 ⟨q, hq, rfl⟩))
theorem hasP_iff {ps : List PL} {v : Vx} : hasP ps v = true ↔ isE v = true ∨ v ∈ keysP ps := by
  unfold hasP
  rw [Bool.or_eq_true, decide_eq_true_eq]
theorem AddOk.up {ps : List PL} {up dn : Vx} {ids : List Vx} {tn : Nat} (h : AddOk ps up dn ids tn) : up = vTop ∨ up ∈ keysP ps := by
  rcases hasP_iff.1 h.ahd.1 with e | e
  · rcases (isE_iff up).1 e with e | e
    · exact .inl e
    · rcases h.ahd.2.2.2 with h1 | h1 | h1
      · exact .inl h1
      · exact absurd (e.trans h1.symm) h.ahd.2.2.1
      · exact absurd e h1.1
  · exact .inr e
theorem AddOk.dnn {ps : List PL} {up dn : Vx} {ids : List Vx} {tn : Nat} (h : AddOk ps up dn ids tn) : dn = vBot ∨ dn ∈ keysP ps := by
  rcases hasP_iff.1 h.ahd.2.1 with e | e
  · rcases (isE_iff dn).1 e with e | e
    · rcases h.ahd.2.2.2 with h1 | h1 | h1
      · exact absurd (h1.trans e.symm) h.ahd.2.2.1
      · exact .inl h1
      · exact absurd e h1.2.1
    · exact .inl e
  · exact .inr e
theorem AddOk.not_up {ps : List PL} {up dn : Vx} {ids : List Vx} {tn : Nat} (h : AddOk ps up dn ids tn) : up ∉ ids := fun hm => by
  rcases hasP_iff.1 h.ahd.1 with e | e
  · rw [h.ends _ hm] at e; cases e
  · exact h.new _ hm e
theorem AddOk.not_dn {ps : List PL} {up dn : Vx} {ids : List Vx} {tn : Nat} (h : AddOk ps up dn ids tn) : dn ∉ ids := fun hm => by
  rcases hasP_iff.1 h.ahd.2.1 with e | e
  · rw [h.ends _ hm] at e; cases e
  · exact h.new _ hm e
theorem addP_mem {ps : List PL} {up dn : Vx} {ids : List Vx} {ts : List BA} {q : PL} (h : q ∈ addP ps up dn ids ts) (hd : dn ∉ ids) :
    (∃ q0 ∈ ps, q.v = q0.v ∧ q.down = q0.down ∧ q.t = q0.t ∧ q.kills = q0.kills ∧ ((q0.v ≠ dn ∧ q.fr = q0.fr) ∨ (q0.v = dn ∧ q.fr = q0.fr ++ [abv up ids ids.length]))) ∨ ∃ i < ids.length, q = newP up dn ids ts i := by
  unfold addP at h
  obtain ⟨q0, h0, rfl⟩ := List.mem_map.1 h
  rcases List.mem_append.1 h0 with h1 | h1
  · refine .inl ⟨q0, h1, ?_⟩
    by_cases e : q0.v = dn
    · rw [if_pos e]
      exact ⟨rfl, rfl, rfl, rfl, .inr ⟨e, rfl⟩⟩
    · rw [if_neg e]
      exact ⟨rfl, rfl, rfl, rfl, .inl ⟨e, rfl⟩⟩
  · obtain ⟨i, hi, rfl⟩ := List.mem_map.1 h1
    have hi := List.mem_range.1 hi
    refine .inr ⟨i, hi, ?_⟩
    rw [if_neg]
    intro e
    refine hd ?_
    rw [← e]
    show ids.getD i vTop ∈ ids
    rw [List.getD_eq_getElem?_getD, List.getElem?_eq_getElem hi]
    exact List.getElem_mem _
theorem addP_old {ps : List PL} {up dn : Vx} {ids : List Vx} {ts : List BA} {q : PL} (h : q ∈ ps) : ∃ q' ∈ addP ps up dn ids ts, q'.v = q.v ∧ q'.down = q.down := by
  refine ⟨_, List.mem_map.2 ⟨q, List.mem_append.2 (.inl h), rfl⟩, ?_⟩
  split <;> exact ⟨rfl, rfl⟩
theorem addP_new {ps : List PL} {up dn : Vx} {ids : List Vx} {ts : List BA} (hd : dn ∉ ids) {i : Nat} (hi : i < ids.length) : newP up dn ids ts i ∈ addP ps up dn ids ts := by
  refine List.mem_map.2 ⟨newP up dn ids ts i, List.mem_append.2 (.inr (List.mem_map.2 ⟨i, List.mem_range.2 hi, rfl⟩)), ?_⟩
  rw [if_neg]
  intro e
  refine hd ?_
  rw [← e]
  show ids.getD i vTop ∈ ids
  rw [List.getD_eq_getElem?_getD, List.getElem?_eq_getElem hi]
  exact List.getElem_mem _
theorem getD_mem {ids : List Vx} {i : Nat} (hi : i < ids.length) (d : Vx) : ids.getD i d ∈ ids := by
  rw [List.getD_eq_getElem?_getD, List.getElem?_eq_getElem hi]
  exact List.getElem_mem _
theorem idx_getD {ids : List Vx} (hn : ids.Nodup) {i : Nat} (hi : i < ids.length) (d : Vx) : ids.idxOf (ids.getD i d) = i := by
  refine Gr.idx_get hn ?_
  rw [List.getD_eq_getElem?_getD, List.getElem?_eq_getElem hi]
  rfl
theorem abv_last {up : Vx} {ids : List Vx} (hne : ids ≠ []) : abv up ids ids.length = ids.getD (ids.length - 1) vTop ∧ ids.length - 1 < ids.length := by
  have := List.length_pos_iff.2 hne
  obtain ⟨m, hm⟩ : ∃ m, ids.length = m + 1 := ⟨ids.length - 1, by omega⟩
  rw [hm]
  exact ⟨rfl, by omega⟩
/-- the order of an addition -/
def addF (ps : List PL) (F : Vx → Nat) (up : Vx) (ids : List Vx) (v : Vx) : Nat := if v ∈ ids then (if up ∈ keysP ps then (F up + 1) * (ids.length + 1) else 0) + ids.idxOf v + 1 else (F v + 1) * (ids.length + 1)
theorem Iv.add {k : Nat} {ps : List PL} (h : Iv k ps) (hk : 1 ≤ k) {up dn : Vx} {ids : List Vx} {ts : List BA} {tn : Nat} (ha : AddOk ps up dn ids tn) : Iv (k + 1) (addP ps up dn ids ts) := by
  obtain ⟨F, hF⟩ := h.acy
  have hnd := ha.not_dn
  have hnu := ha.not_up
  have hlast := abv_last (up := up) ha.ne
  have hkeys := add_keys ps up dn ids ts
  have htop : vTop ∉ ids := fun hm => by have := ha.ends _ hm; rw [isE_top] at this; cases this
  have hdis : ∀ v ∈ keysP ps, v ∉ ids := fun v hv hi => ha.new v hi hv
  refine ⟨?_, ?_, (add_tied h.tiedP ha.up htop).2, add_ne h.ne, add_ln h.ln hk, ⟨addF ps F up ids, ?_⟩, ?_, ?_⟩
  · rw [hkeys, List.nodup_append]
    exact ⟨h.nd, ha.nd, fun x hx y hy e => hdis x hx (e ▸ hy)⟩
  · rw [hkeys]
    intro v hv
    rcases List.mem_append.1 hv with hv | hv
    · exact h.ends v hv
    · exact ha.ends v hv
  · intro q hq u hu hku
    rw [hkeys] at hku
    rcases addP_mem hq hnd with ⟨q0, h0, ev, _, _, _, hfr⟩ | ⟨i, hi, rfl⟩
    · have hk0 : q0.v ∈ keysP ps := List.mem_map.2 ⟨q0, h0, rfl⟩
      have e0 : addF ps F up ids q.v = (F q0.v + 1) * (ids.length + 1) := by unfold addF; rw [ev, if_neg (hdis _ hk0)]
      rw [e0]
      have hold : u ∈ q0.fr → addF ps F up ids u < (F q0.v + 1) * (ids.length + 1) := fun hu0 => by
        have hu1 : u ∉ ids := by
          rcases h.tied q0 h0 u hu0 with e | e
          · rw [e]; exact htop
          · exact hdis u e
        have hu2 : u ∈ keysP ps := (List.mem_append.1 hku).resolve_right hu1
        unfold addF
        rw [if_neg hu1]
        have := hF q0 h0 u hu0 hu2
        exact Nat.mul_lt_mul_of_pos_right (by omega) (by omega)
      rcases hfr with ⟨_, e⟩ | ⟨edn, e⟩
      · exact hold (by rw [← e]; exact hu)
      · rw [e] at hu
        rcases List.mem_append.1 hu with hu | hu
        · exact hold hu
        · have hu := List.mem_singleton.1 hu
          have hui : u ∈ ids := by rw [hu, hlast.1]; exact getD_mem hlast.2 _
          have hux : ids.idxOf u = ids.length - 1 := by rw [hu, hlast.1]; exact idx_getD ha.nd hlast.2 _
          unfold addF
          rw [if_pos hui, hux]
          by_cases hup : up ∈ keysP ps
          · rw [if_pos hup]
            have hlt : F up < F dn := by
              rcases ha.ahd.2.2.2 with e1 | e1 | e1
              · rw [e1] at hup; exact absurd hup h.top
              · rw [edn, e1] at hk0; exact absurd hk0 h.bot
              · exact reach_lt hF e1.2.2 hup
            rw [edn]
            have h9 : (F up + 1 + 1) * (ids.length + 1) ≤ (F dn + 1) * (ids.length + 1) := Nat.mul_le_mul_right _ (by omega)
            have h8 : (F up + 1 + 1) * (ids.length + 1) = (F up + 1) * (ids.length + 1) + (ids.length + 1) := Nat.succ_mul _ _
            omega
          · rw [if_neg hup]
            have h9 : 1 * (ids.length + 1) ≤ (F q0.v + 1) * (ids.length + 1) := Nat.mul_le_mul_right _ (by omega)
            omega
    · have ei : addF ps F up ids (ids.getD i vTop) = (if up ∈ keysP ps then (F up + 1) * (ids.length + 1) else 0) + i + 1 := by
        unfold addF
        rw [if_pos (getD_mem hi _), idx_getD ha.nd hi]
      show addF ps F up ids u < addF ps F up ids (ids.getD i vTop)
      rw [ei]
      have hu : u = abv up ids i := by simpa [newP] using hu
      cases i with
      | zero =>
        have hu : u = up := hu
        have hkp : up ∈ keysP ps := (List.mem_append.1 (by rw [← hu]; exact hku)).resolve_right hnu
        rw [hu, if_pos hkp]
        unfold addF
        rw [if_neg hnu]
        omega
      | succ j =>
        have hu : u = ids.getD j vTop := hu
        rw [hu]
        unfold addF
        rw [if_pos (getD_mem (by omega) _), idx_getD ha.nd (by omega)]
        omega
  · intro q hq u hu
    rcases addP_mem hq hnd with ⟨q0, h0, ev, _, _, _, hfr⟩ | ⟨i, hi, rfl⟩
    · have hold : u ∈ q0.fr.tail → ∃ y ∈ addP ps up dn ids ts, y.v = u ∧ y.down = q.v := fun hu0 => by
        obtain ⟨y, hy, e1, e2⟩ := h.tail q0 h0 u hu0
        obtain ⟨y', hy', f1, f2⟩ := addP_old (up := up) (dn := dn) (ids := ids) (ts := ts) hy
        exact ⟨y', hy', by rw [f1, e1], by rw [f2, e2, ev]⟩
      rcases hfr with ⟨_, e⟩ | ⟨edn, e⟩
      · exact hold (by rw [← e]; exact hu)
      · rw [e] at hu
        cases hf : q0.fr with
        | nil => exact absurd hf (h.ne q0 h0)
        | cons x l =>
          rw [hf, List.cons_append, List.tail_cons] at hu
          rcases List.mem_append.1 hu with hu | hu
          · exact hold (by rw [hf]; exact hu)
          · have hu := List.mem_singleton.1 hu
            refine ⟨_, addP_new (ps := ps) hnd hlast.2, ?_, ?_⟩
            · rw [hu, hlast.1]; rfl
            · show ids.getD (ids.length - 1 + 1) dn = q.v
              rw [ev, edn, List.getD_eq_getElem?_getD, List.getElem?_eq_none (by omega)]
              rfl
    · have : (newP up dn ids ts i).fr.tail = [] := rfl
      rw [this] at hu
      cases hu
  · intro q hq
    rw [hkeys]
    rcases addP_mem hq hnd with ⟨q0, h0, _, ed, _, _, _⟩ | ⟨i, hi, rfl⟩
    · rw [ed]
      exact (h.dn q0 h0).imp id fun hx => List.mem_append.2 (.inl hx)
    · show isE (ids.getD (i + 1) dn) = true ∨ ids.getD (i + 1) dn ∈ keysP ps ++ ids
      by_cases hi2 : i + 1 < ids.length
      · exact .inr (List.mem_append.2 (.inr (getD_mem hi2 _)))
      · rw [List.getD_eq_getElem?_getD, List.getElem?_eq_none (by omega)]
        show isE dn = true ∨ dn ∈ keysP ps ++ ids
        exact (hasP_iff.1 ha.ahd.2.1).imp id fun hx => List.mem_append.2 (.inl hx)
/-- a call, plain: what it answers and leaves -/
def StepR (ps : List PL) (a : AV) (E : Int) (ps' : List PL) : Prop :=
  (a.k = 0 ∧ ∃ AH : Bool, (AH = true ↔ ahdP ps a.up a.dn) ∧ E = addEP ps AH a.up a.dn a.ids a.tn ∧ ps' = if E = 0 then addP ps a.up a.dn a.ids a.ts else ps) ∨
  (a.k = 1 ∧ E = dropE ps a.ids ∧ ps' = if E = 0 then dropP ps a.ids else ps) ∨
  (a.k = 2 ∧ E = killE ps a.up a.by_ ∧ ps' = if E = 0 then turnP ((· ++ [a.by_])) ps a.up else ps) ∨
  (a.k ≠ 0 ∧ a.k ≠ 1 ∧ a.k ≠ 2 ∧ E = unkillE ps a.up a.by_ ∧ ps' = if E = 0 then turnP (fun l => l.filter (fun x => decide (x ≠ a.by_))) ps a.up else ps)
theorem Iv.step {k : Nat} {ps ps' : List PL} {a : AV} {E : Int} (h : Iv k ps) (hk : 1 ≤ k) (hs : StepR ps a E ps') : Iv (k + 1) ps' := by
  rcases hs with ⟨_, AH, hA, hE, rfl⟩ | ⟨_, hE, rfl⟩ | ⟨_, hE, rfl⟩ | ⟨_, _, _, hE, rfl⟩
  · split
    · rename_i e
      exact h.add hk (addE_zero (by rw [← hE]; exact e) hA)
    · exact h.more (by omega)
  · split
    · rename_i e
      exact (h.drop (by rw [← hE]; exact e)).more (by omega)
    · exact h.more (by omega)
  · split
    · exact (h.turn _ _).more (by omega)
    · exact h.more (by omega)
  · split
    · exact (h.turn _ _).more (by omega)
    · exact h.more (by omega)
/-- what was just added and dropped leaves what was -/
theorem undo_need {k : Nat} {ps : List PL} (h : Iv k ps) {up dn : Vx} {ids : List Vx} {ts : List BA} {tn : Nat} (ha : AddOk ps up dn ids tn) : dropE (addP ps up dn ids ts) ids = 0 := by
  have hnd := ha.not_dn
  have htop : vTop ∉ ids := fun hm => by have := ha.ends _ hm; rw [isE_top] at this; cases this
  have hdis : ∀ v ∈ keysP ps, v ∉ ids := fun v hv hi => ha.new v hi hv
  have hnE : ∀ v, isE v = true → v ∉ ids := fun v hv hi => by rw [ha.ends v hi] at hv; cases hv
  unfold dropE
  rw [if_neg (by rw [(mayBe_iff ids).2 ⟨ha.ne, ha.nd, ha.ends⟩]; simp), if_neg, if_neg]
  · rw [need_set]
    intro e
    unfold needP at e
    obtain ⟨q, hq, hx⟩ := List.any_eq_true.1 e
    unfold needQ at hx
    rw [Bool.and_eq_true] at hx
    have hv : q.v ∉ ids := by simpa using hx.1
    rcases addP_mem hq hnd with ⟨q0, h0, ev, ed, _, _, hfr⟩ | ⟨i, hi, rfl⟩
    · have h1 : q.fr.headD vTop ∉ ids := by
        have h2 : q0.fr.headD vTop ∉ ids := by
          cases hf : q0.fr with
          | nil => exact absurd hf (h.ne q0 h0)
          | cons x l =>
            show x ∉ ids
            rcases h.tied q0 h0 x (by rw [hf]; simp) with e | e
            · rw [e]; exact htop
            · exact hdis x e
        rcases hfr with ⟨_, e⟩ | ⟨_, e⟩
        · rw [e]; exact h2
        · rw [e]
          cases hf : q0.fr with
          | nil => exact absurd hf (h.ne q0 h0)
          | cons x l => rw [hf] at h2; exact h2
      have h3 : q.down ∉ ids := by
        rw [ed]
        rcases h.dn q0 h0 with e | e
        · exact hnE _ e
        · exact hdis _ e
      have h5 := hx.2
      rw [Bool.or_eq_true, decide_eq_true_eq, decide_eq_true_eq] at h5
      exact h5.elim h1 h3
    · exact hv (getD_mem hi _)
  · rw [add_keys]
    have : (ids.all fun v => decide (v ∈ keysP ps ++ ids)) = true := List.all_eq_true.2 fun v hv => by simp [hv]
    rw [this]
    simp
theorem undo_add {k : Nat} {ps : List PL} (h : Iv k ps) (hk : 1 ≤ k) {up dn : Vx} {ids : List Vx} {ts : List BA} {tn : Nat} (ha : AddOk ps up dn ids tn) : dropP (addP ps up dn ids ts) ids = ps := by
  have hnd := ha.not_dn
  have htop : vTop ∉ ids := fun hm => by have := ha.ends _ hm; rw [isE_top] at this; cases this
  have hdis : ∀ v ∈ keysP ps, v ∉ ids := fun v hv hi => ha.new v hi hv
  have hlast := abv_last (up := up) ha.ne
  rw [dropP_gon (h.add hk ha) (undo_need h ha)]
  unfold gonP addP
  rw [List.filter_map, List.map_map, List.filter_append]
  have e1 : (((List.range ids.length).map (newP up dn ids ts)).filter ((fun q : PL => decide (q.v ∉ ids)) ∘ fun q => if q.v = dn then { q with fr := q.fr ++ [abv up ids ids.length] } else q)) = [] := by
    rw [List.filter_eq_nil_iff]
    intro q hq
    obtain ⟨i, hi, rfl⟩ := List.mem_map.1 hq
    have hi := List.mem_range.1 hi
    have hm : (newP up dn ids ts i).v ∈ ids := getD_mem hi _
    show ¬ decide ((if (newP up dn ids ts i).v = dn then { newP up dn ids ts i with fr := (newP up dn ids ts i).fr ++ [abv up ids ids.length] } else newP up dn ids ts i).v ∉ ids) = true
    split <;> simp [hm]
  have e2 : ps.filter ((fun q : PL => decide (q.v ∉ ids)) ∘ fun q => if q.v = dn then { q with fr := q.fr ++ [abv up ids ids.length] } else q) = ps := by
    rw [List.filter_eq_self]
    intro q hq
    have hm := hdis q.v (List.mem_map.2 ⟨q, hq, rfl⟩)
    show decide ((if q.v = dn then { q with fr := q.fr ++ [abv up ids ids.length] } else q).v ∉ ids) = true
    split <;> simp [hm]
  rw [e1, e2, List.append_nil]
  refine (List.map_congr_left (g := id) fun q hq => ?_).trans (List.map_id _)
  have hfr : q.fr.filter (fun u => decide (u ∉ ids)) = q.fr := by
    rw [List.filter_eq_self]
    intro u hu
    rcases h.tied q hq u hu with e | e
    · rw [e]; simpa using htop
    · simpa using hdis u e
  have hl : abv up ids ids.length ∈ ids := by rw [hlast.1]; exact getD_mem hlast.2 _
  show ({ (if q.v = dn then { q with fr := q.fr ++ [abv up ids ids.length] } else q) with fr := (if q.v = dn then { q with fr := q.fr ++ [abv up ids ids.length] } else q).fr.filter fun u => decide (u ∉ ids) } : PL) = q
  by_cases e : q.v = dn
  · rw [if_pos e]
    show ({ q with fr := (q.fr ++ [abv up ids ids.length]).filter fun u => decide (u ∉ ids) } : PL) = q
    rw [List.filter_append, hfr]
    simp [hl]
  · rw [if_neg e, hfr]
theorem add_len {ps : List PL} {up dn : Vx} {ids : List Vx} {ts : List BA} : (addP ps up dn ids ts).length = ps.length + ids.length := by
  unfold addP
  simp
theorem undo_kill {ps : List PL} {v : Vx} {y : Hs} (hn : (keysP ps).Nodup) (h : killE ps v y = 0) : unkillE (turnP ((· ++ [y])) ps v) v y = 0 ∧ turnP (fun l => l.filter (fun x => decide (x ≠ y))) (turnP ((· ++ [y])) ps v) v = ps := by
  unfold killE at h
  cases he : isE v with
  | true => rw [he] at h; cases h
  | false =>
    rw [he] at h
    cases hg : getP ps v with
    | none => rw [hg] at h; cases h
    | some q =>
      rw [hg] at h
      have hy : y ∉ q.kills := fun hm => by
        have h : (if y ∈ q.kills then (110 : Int) else 0) = 0 := h
        rw [if_pos hm] at h
        cases h
      obtain ⟨hm, hv⟩ := getP_some hg
      have hq' : ({ q with kills := q.kills ++ [y] } : PL) ∈ turnP ((· ++ [y])) ps v := List.mem_map.2 ⟨q, hm, by rw [if_pos hv]⟩
      have hg' : getP (turnP ((· ++ [y])) ps v) v = some { q with kills := q.kills ++ [y] } := by
        have := getP_of (ps := turnP ((· ++ [y])) ps v) (by rw [turn_keys]; exact hn) hq'
        rw [← hv]
        rw [← hv] at this
        exact this
      refine ⟨?_, ?_⟩
      · unfold unkillE
        rw [he, hg']
        simp
      · unfold turnP
        rw [List.map_map]
        refine (List.map_congr_left (g := id) fun x hx => ?_).trans (List.map_id _)
        show (fun q : PL => if q.v = v then ({ q with kills := q.kills.filter (fun z => decide (z ≠ y)) } : PL) else q) (if x.v = v then { x with kills := x.kills ++ [y] } else x) = x
        by_cases e : x.v = v
        · have hxq : x = q := by
            have h1 := getP_of hn hx
            rw [e, hg] at h1
            exact (Option.some.inj h1).symm
          subst hxq
          rw [if_pos e]
          show (if x.v = v then ({ x with kills := (x.kills ++ [y]).filter fun z => decide (z ≠ y) } : PL) else _) = x
          rw [if_pos e]
          have hk : (x.kills ++ [y]).filter (fun z => decide (z ≠ y)) = x.kills := by
            rw [List.filter_append]
            have h2 : x.kills.filter (fun z => decide (z ≠ y)) = x.kills := by
              rw [List.filter_eq_self]
              intro z hz
              simp only [decide_eq_true_eq]
              rintro rfl
              exact hy hz
            rw [h2]
            simp
          rw [hk]
        · rw [if_neg e]
          show (if x.v = v then _ else x) = x
          rw [if_neg e]
end Go.Proofs.Ytjcihaohpbmogaa.Oct
