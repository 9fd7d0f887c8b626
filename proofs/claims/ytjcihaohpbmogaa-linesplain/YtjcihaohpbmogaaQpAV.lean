/-
  Layer 11 (lines): who edits alone, plain.
  Layer 11 (lines): who edits alone, plain: lines are put in.
-/
import Derived.Test.YtjcihaohpbmogaaQpAU
import Derived.Test.YtjcihaohpbmogaaQpAN
/- Layer 11 (lines): who edits alone, plain. -/
namespace Go.Proofs.Ytjcihaohpbmogaa.Oct
open Go.RowKit
set_option maxRecDepth 100000
set_option linter.unusedSimpArgs false
set_option linter.unusedVariables false
set_option linter.unusedSectionVars false

/-- the one that edits in a round: a hash of which the first byte is told -/
def hb (i : Nat) : Hs := UInt8.ofNat (i + 1) :: List.replicate 31 0
theorem hb_len (i : Nat) : (hb i).length = 32 := by simp [hb]
theorem hb_inj {i j : Nat} (hi : i < 100) (hj : j < 100) (h : hb i = hb j) : i = j := by
  unfold hb at h
  injection h with h _
  have := congrArg UInt8.toNat h
  simp at this
  omega
theorem hb_top (i : Nat) (hi : i < 100) (n : Int) : isE ⟨hb i, n⟩ = false := by
  cases h : isE ⟨hb i, n⟩ with
  | false => rfl
  | true =>
    have h0 : hb i = z32 := by
      rcases (isE_iff _).1 h with e | e
      · exact congrArg Vx.h e
      · exact congrArg Vx.h e
    have h1 : (hb i).head? = z32.head? := by rw [h0]
    unfold hb z32 at h1
    simp at h1
    have := congrArg UInt8.toNat h1
    simp at this
    omega
def txO (ps : List PL) (v : Vx) : BA := ((getP ps v).map (·.t)).getD e0
structure Pl (i : Nat) (ps : List PL) (ids : List Vx) (ts : List BA) : Prop where
  iv : Iv (i + 1) ps
  nd : ids.Nodup
  chain : ids.Pairwise (fun a b => Gr.Reach (frsP ps) b a)
  live : ∀ q ∈ ps, (q.kills = [] ↔ q.v ∈ ids)
  mem : ∀ v ∈ ids, v ∈ keysP ps
  txt : ts = ids.map (txO ps)
  old : ∀ q ∈ ps, (∃ j < i, q.v.h = hb j) ∧ ∀ y ∈ q.kills, ∃ j < i, y = hb j
  few : ps.length ≤ 6 * i
theorem Pl.start : Pl 0 [] [] [] := ⟨Iv.none, by simp, by simp, by simp, by simp, rfl, by simp, by simp⟩
theorem Pl.idle {i : Nat} {ps : List PL} {ids : List Vx} {ts : List BA} (h : Pl i ps ids ts) : Pl (i + 1) ps ids ts := ⟨h.iv.more (by omega), h.nd, h.chain, h.live, h.mem, h.txt, fun q hq => ⟨(h.old q hq).1.imp fun j hj => ⟨by omega, hj.2⟩, fun y hy => ((h.old q hq).2 y hy).imp fun j hj => ⟨by omega, hj.2⟩⟩, by have := h.few; omega⟩
theorem pair_same {α : Type} [DecidableEq α] {R : α → α → Prop} : ∀ (C S : List α), C.Pairwise R → S.Pairwise (fun a b => ¬ R b a) → C.Nodup → S.Nodup → (∀ x, x ∈ C ↔ x ∈ S) → C = S
  | [], [], _, _, _, _, _ => rfl
  | [], y :: S, _, _, _, _, h => by have := (h y).2 (by simp); cases this
  | x :: C, [], _, _, _, _, h => by have := (h x).1 (by simp); cases this
  | c :: C, s :: S, hC, hS, nC, nS, h => by
    rw [List.pairwise_cons] at hC hS
    rw [List.nodup_cons] at nC nS
    have e : c = s := Classical.byContradiction fun hne => by
      have h1 : c ∈ S := by
        rcases List.mem_cons.1 ((h c).1 (by simp)) with e | e
        · exact absurd e hne
        · exact e
      have h2 : s ∈ C := by
        rcases List.mem_cons.1 ((h s).2 (by simp)) with e | e
        · exact absurd e.symm hne
        · exact e
      exact hS.1 c h1 (hC.1 s h2)
    subst e
    refine congrArg (c :: ·) (pair_same C S hC.2 hS.2 nC.2 nS.2 fun x => ?_)
    constructor
    · intro hx
      rcases List.mem_cons.1 ((h x).1 (by simp [hx])) with e | e
      · subst e; exact absurd hx nC.1
      · exact e
    · intro hx
      rcases List.mem_cons.1 ((h x).2 (by simp [hx])) with e | e
      · subst e; exact absurd hx nS.1
      · exact e
/-- of what is told, by number -/
theorem told_ids {i : Nat} {ps : List PL} {ids : List Vx} {ts : List BA} (h : Pl i ps ids ts) {vs : List Vx} (hr : riseP ps vs) : ((Gr.ordr (flvP ps vs) (List.range vs.length)).filter (aliveP ps vs)).map (fun n => vs.getD n vTop) = ids := by
  have hS := h.iv.shown hr
  have hnd := rise_nodup h.iv.nd hr
  have hodd := ordr_odd (flvP ps vs) vs.length
  obtain ⟨hlt, hTn⟩ := hodd.lt
  have hT := hS.ord
  have hlen := hS.len
  unfold shownP at hT hlen
  obtain ⟨T, hTe⟩ : ∃ T, Gr.ordr (flvP ps vs) (List.range vs.length) = T := ⟨_, rfl⟩
  rw [hTe] at hlt hTn hT hlen ⊢
  have hmem : ∀ n, n ∈ T ↔ n < vs.length := fun n => ⟨hlt n, fun hn => Gr.mem_all hTn (b := List.range vs.length) (fun x hx => List.mem_range.2 (hlt x hx)) (by
    rw [List.length_map] at hlen
    rw [List.length_range, hlen, rise_len hr]
    exact Nat.le_refl _) n (List.mem_range.2 hn)⟩
  have hal : ∀ n < vs.length, aliveP ps vs n = true ↔ vs.getD n vTop ∈ ids := fun n hn => by
    obtain ⟨q, hq⟩ := getP_mem ((rise_mem hr _).1 (getD_in hn))
    obtain ⟨hm, hv⟩ := getP_some hq
    unfold aliveP
    rw [hq]
    show decide (q.kills = []) = true ↔ _
    rw [decide_eq_true_eq, h.live q hm, hv]
  have hinj : ∀ a < vs.length, ∀ b < vs.length, vs.getD a vTop = vs.getD b vTop → a = b := fun a ha b hb e => by
    have h1 := idx_getD hnd ha vTop
    have h2 := idx_getD hnd hb vTop
    rw [← h1, ← h2, e]
  symm
  refine pair_same (R := fun a b => Gr.Reach (frsP ps) b a) _ _ h.chain ?_ h.nd ?_ fun x => ?_
  · rw [List.pairwise_map]
    refine List.Pairwise.filter _ ?_
    rw [List.pairwise_iff_getElem]
    intro j i hj hi hji
    have h9 := hT i j _ _ hji (by rw [List.getElem?_map, List.getElem?_eq_getElem hi]; rfl) (by rw [List.getElem?_map, List.getElem?_eq_getElem hj]; rfl)
    intro hR
    refine h9.2 ⟨?_, ?_, fun e => h9.1 e.symm, .inr (.inr ⟨fun e => ?_, fun e => ?_, hR⟩)⟩
    · exact hasP_iff.2 (.inr ((rise_mem hr _).1 (getD_in (hlt _ (List.getElem_mem hi)))))
    · exact hasP_iff.2 (.inr ((rise_mem hr _).1 (getD_in (hlt _ (List.getElem_mem hj)))))
    · exact h.iv.bot (e ▸ (rise_mem hr _).1 (getD_in (hlt _ (List.getElem_mem hi))))
    · exact h.iv.top (e ▸ (rise_mem hr _).1 (getD_in (hlt _ (List.getElem_mem hj))))
  · have hf := hTn.filter (aliveP ps vs)
    unfold List.Nodup at hf ⊢
    rw [List.pairwise_map]
    refine List.Pairwise.imp_of_mem (fun {a b} ha hb hne e => hne ?_) hf
    exact hinj a (hlt a (List.mem_filter.1 ha).1) b (hlt b (List.mem_filter.1 hb).1) e
  · rw [List.mem_map]
    constructor
    · intro hx
      have hv := (rise_mem hr x).2 (h.mem x hx)
      have hi := List.idxOf_lt_length_of_mem hv
      have e : vs.getD (vs.idxOf x) vTop = x := by rw [List.getD_eq_getElem?_getD, Gr.get_idx hv]; rfl
      refine ⟨vs.idxOf x, List.mem_filter.2 ⟨(hmem _).2 hi, (hal _ hi).2 (by rw [e]; exact hx)⟩, e⟩
    · rintro ⟨n, hn, rfl⟩
      obtain ⟨h1, h2⟩ := List.mem_filter.1 hn
      exact (hal n (hlt n h1)).1 h2
/-- the text is what the edits made -/
theorem Pl.text {i : Nat} {ps : List PL} {ids : List Vx} {ts : List BA} (h : Pl i ps ids ts) {vs : List Vx} (hr : riseP ps vs) : txs (shownP ps vs) = ts := by
  have hid := told_ids h hr
  have hodd := (ordr_odd (flvP ps vs) vs.length).lt.1
  unfold txs shownP
  rw [List.filter_map, List.map_map]
  have e1 : (Gr.ordr (flvP ps vs) (List.range vs.length)).filter ((fun x : Sx => x.k == 0) ∘ sxP ps vs) = (Gr.ordr (flvP ps vs) (List.range vs.length)).filter (aliveP ps vs) := by
    refine List.filter_congr fun n hn => ?_
    obtain ⟨q, hq⟩ := getP_mem ((rise_mem hr _).1 (getD_in (hodd n hn)))
    show ((sxP ps vs n).k == 0) = aliveP ps vs n
    unfold sxP aliveP
    rw [hq]
    cases hk : q.kills <;> simp [hk]
  rw [e1, h.txt, ← hid, List.map_map]
  rfl
/-- and nothing is in conflict -/
theorem Pl.conf {i : Nat} {ps : List PL} {ids : List Vx} {ts : List BA} (h : Pl i ps ids ts) {vs : List Vx} (hr : riseP ps vs) (hN : vs.length ≤ 512) : confP ps vs = 0 := by
  have hid := told_ids h hr
  have hodd := ordr_odd (flvP ps vs) vs.length
  obtain ⟨hlt, hTn⟩ := hodd.lt
  have hnd := rise_nodup h.iv.nd hr
  obtain ⟨R, hR⟩ := reach_bool (flvP ps vs)
  unfold confP
  rw [conf_pairs hN hR hodd]
  have hch := h.chain
  rw [← hid, List.pairwise_map] at hch
  have key : ∀ l : List Nat, (∀ x ∈ l, x < vs.length) → l.Pairwise (fun a b => Gr.Reach (frsP ps) (vs.getD b vTop) (vs.getD a vTop)) → Gr.pairs R l = 0 := by
    intro l
    induction l with
    | nil => intro _ _; rfl
    | cons x l ih =>
      intro hl hp
      rw [List.pairwise_cons] at hp
      show (l.filter fun b => !R x b).length + Gr.pairs R l = 0
      rw [ih (fun y hy => hl y (by simp [hy])) hp.2, Nat.add_zero, List.length_eq_zero_iff, List.filter_eq_nil_iff]
      intro b hb
      have hxl := hl x (by simp)
      have hbl := hl b (by simp [hb])
      have h1 := reach_num h.iv.nd hr (hp.1 b hb) (getD_in hbl) (getD_in hxl)
      rw [idx_getD hnd hbl, idx_getD hnd hxl] at h1
      rw [(hR x b).2 h1]
      simp
  rw [key _ (fun x hx => hlt x (List.mem_filter.1 hx).1) hch]
  rfl
theorem turn_get {f : List Hs → List Hs} {ps : List PL} {v u : Vx} : getP (turnP f ps v) u = (getP ps u).map fun q => if q.v = v then { q with kills := f q.kills } else q := by
  unfold getP turnP
  rw [List.find?_map]
  congr 1
  have : ((fun q : PL => q.v == u) ∘ fun q : PL => if q.v = v then { q with kills := f q.kills } else q) = fun q : PL => q.v == u := by
    funext q
    show ((if q.v = v then { q with kills := f q.kills } else q).v == u) = _
    split <;> rfl
  rw [this]
theorem turn_frs {f : List Hs → List Hs} {ps : List PL} {v : Vx} : frsP (turnP f ps v) = frsP ps := by
  funext u
  unfold frsP
  rw [turn_get]
  cases getP ps u with
  | none => rfl
  | some q =>
    show (if q.v = v then { q with kills := f q.kills } else q).fr = q.fr
    split <;> rfl
theorem turn_txO {f : List Hs → List Hs} {ps : List PL} {v u : Vx} : txO (turnP f ps v) u = txO ps u := by
  unfold txO
  rw [turn_get]
  cases getP ps u with
  | none => rfl
  | some q =>
    show (if q.v = v then { q with kills := f q.kills } else q).t = q.t
    split <;> rfl
/-- a line is taken out -/
theorem Pl.kill {i : Nat} {ps : List PL} {ids : List Vx} {ts : List BA} (h : Pl i ps ids ts) (hi : i < 100) {at_ : Nat} {v : Vx} (ha : ids[at_]? = some v) : killE ps v (hb i) = 0 ∧ Pl (i + 1) (turnP ((· ++ [hb i])) ps v) (ids.take at_ ++ ids.drop (at_ + 1)) (ts.take at_ ++ ts.drop (at_ + 1)) := by
  have hv : v ∈ ids := List.mem_of_getElem? ha
  have hk := h.mem v hv
  obtain ⟨q, hq⟩ := getP_mem hk
  obtain ⟨hm, hqv⟩ := getP_some hq
  have hnew : ∀ q ∈ ps, hb i ∉ q.kills := fun q hq hy => by
    obtain ⟨j, hj, e⟩ := (h.old q hq).2 _ hy
    have := hb_inj hi (by omega) e
    omega
  have hlt := (List.getElem?_eq_some_iff.1 ha).1
  have hsplit : ids = ids.take at_ ++ v :: ids.drop (at_ + 1) := by
    have := List.take_append_drop at_ ids
    rw [List.drop_eq_getElem_cons hlt, (List.getElem?_eq_some_iff.1 ha).2] at this
    exact this.symm
  have hsub : (ids.take at_ ++ ids.drop (at_ + 1)).Sublist ids := by
    conv => rhs; rw [hsplit]
    exact List.Sublist.append (List.Sublist.refl _) (List.sublist_cons_self _ _)
  have hmem : ∀ x, x ∈ ids.take at_ ++ ids.drop (at_ + 1) ↔ x ∈ ids ∧ x ≠ v := fun x => by
    have hnd := h.nd
    rw [hsplit, List.nodup_append] at hnd
    obtain ⟨n1, n2, n3⟩ := hnd
    rw [List.nodup_cons] at n2
    constructor
    · intro hx
      refine ⟨hsub.subset hx, fun e => ?_⟩
      subst e
      rcases List.mem_append.1 hx with hx | hx
      · exact n3 x hx x (by simp) rfl
      · exact n2.1 hx
    · rintro ⟨hx, hne⟩
      rw [hsplit] at hx
      rcases List.mem_append.1 hx with hx | hx
      · exact List.mem_append.2 (.inl hx)
      · rcases List.mem_cons.1 hx with e | hx
        · exact absurd e hne
        · exact List.mem_append.2 (.inr hx)
  refine ⟨?_, ?_⟩
  · unfold killE
    rw [h.iv.ends v hk, hq]
    show (if hb i ∈ q.kills then (110 : Int) else 0) = 0
    rw [if_neg (hnew q hm)]
  · refine ⟨(h.iv.turn _ _).more (by omega), h.nd.sublist hsub, ?_, fun x hx => ?_, fun x hx => ?_, ?_, fun x hx => ?_, ?_⟩
    · rw [turn_frs]
      exact h.chain.sublist hsub
    · obtain ⟨x0, h0, rfl⟩ := List.mem_map.1 hx
      rw [hmem]
      by_cases e : x0.v = v
      · rw [if_pos e]
        simp [e]
      · rw [if_neg e, h.live x0 h0]
        exact ⟨fun h => ⟨h, e⟩, fun h => h.1⟩
    · rw [turn_keys]
      exact h.mem x ((hmem x).1 hx).1
    · rw [h.txt, ← List.map_take, ← List.map_drop, ← List.map_append]
      exact List.map_congr_left fun x _ => turn_txO.symm
    · obtain ⟨x0, h0, rfl⟩ := List.mem_map.1 hx
      obtain ⟨o1, o2⟩ := h.old x0 h0
      have o1' : ∃ j < i + 1, x0.v.h = hb j := o1.imp fun j hj => ⟨by omega, hj.2⟩
      have o2' : ∀ y ∈ x0.kills, ∃ j < i + 1, y = hb j := fun y hy => (o2 y hy).imp fun j hj => ⟨by omega, hj.2⟩
      by_cases e : x0.v = v
      · rw [if_pos e]
        refine ⟨o1', fun y hy => ?_⟩
        rcases List.mem_append.1 hy with hy | hy
        · exact o2' y hy
        · rw [List.mem_singleton.1 hy]
          exact ⟨i, by omega, rfl⟩
      · rw [if_neg e]
        exact ⟨o1', o2'⟩
    · unfold turnP
      rw [List.length_map]
      have := h.few
      omega
end Go.Proofs.Ytjcihaohpbmogaa.Oct

/- Layer 11 (lines): who edits alone, plain: lines are put in. -/
namespace Go.Proofs.Ytjcihaohpbmogaa.Oct
open Go.RowKit
set_option maxRecDepth 100000
set_option linter.unusedSimpArgs false
set_option linter.unusedVariables false
set_option linter.unusedSectionVars false

/-- new lines of a round -/
def fresh (i m : Nat) : List Vx := (List.range m).map fun (k : Nat) => ⟨hb i, (k : Int)⟩
theorem fresh_len (i m : Nat) : (fresh i m).length = m := by simp [fresh]
theorem fresh_get {i m k : Nat} (hk : k < m) : (fresh i m)[k]? = some ⟨hb i, (k : Int)⟩ := by
  unfold fresh
  rw [List.getElem?_map, List.getElem?_range hk]
  rfl
theorem fresh_getD {i m k : Nat} (hk : k < m) (d : Vx) : (fresh i m).getD k d = ⟨hb i, (k : Int)⟩ := by rw [List.getD_eq_getElem?_getD, fresh_get hk]; rfl
theorem fresh_nd (i m : Nat) : (fresh i m).Nodup := by
  unfold fresh List.Nodup
  rw [List.pairwise_map]
  refine List.Pairwise.imp (fun {a b} h e => ?_) (List.nodup_range (n := m))
  injection e with _ e
  exact h (by omega)
theorem fresh_mem {i m : Nat} {x : Vx} (h : x ∈ fresh i m) : x.h = hb i ∧ ∃ k < m, x = ⟨hb i, (k : Int)⟩ := by
  unfold fresh at h
  obtain ⟨k, hk, rfl⟩ := List.mem_map.1 h
  exact ⟨rfl, k, List.mem_range.1 hk, rfl⟩
theorem fresh_succ (i m : Nat) : fresh i (m + 1) = fresh i m ++ [⟨hb i, (m : Int)⟩] := by
  unfold fresh
  rw [List.range_succ, List.map_append]
  rfl
/-- up and down of a place -/
def upAt (ids : List Vx) (at_ : Nat) : Vx := if at_ = 0 then vTop else ids.getD (at_ - 1) vTop
def dnAt (ids : List Vx) (at_ : Nat) : Vx := if at_ < ids.length then ids.getD at_ vTop else vBot
variable {i : Nat} {ps : List PL} {ids : List Vx} {ts : List BA}
theorem Pl.fresh_new (h : Pl i ps ids ts) (hi : i < 100) (m : Nat) : ∀ v ∈ fresh i m, v ∉ keysP ps := fun v hv hk => by
  obtain ⟨q, hq, e⟩ := List.mem_map.1 hk
  obtain ⟨j, hj, e2⟩ := (h.old q hq).1
  have e : q.v = v := e
  rw [e, (fresh_mem hv).1] at e2
  have := hb_inj hi (by omega) e2
  omega
theorem Pl.ok (h : Pl i ps ids ts) (hi : i < 30) {m at_ : Nat} (hm : 0 < m) (hm6 : m ≤ 6) (ha : at_ ≤ ids.length) : AddOk ps (upAt ids at_) (dnAt ids at_) (fresh i m) m := by
  refine ⟨fun e => ?_, fresh_nd i m, fun v hv => ?_, (fresh_len i m).symm, h.fresh_new (by omega) m, ?_, ?_⟩
  · have := congrArg List.length e
    rw [fresh_len] at this
    simp at this
    omega
  · obtain ⟨_, k, _, rfl⟩ := fresh_mem hv
    exact hb_top i (by omega) _
  · have key : ∀ k, k < ids.length → ids.getD k vTop ∈ keysP ps := fun k hk => h.mem _ (getD_mem hk _)
    unfold upAt dnAt
    by_cases h0 : at_ = 0
    · rw [if_pos h0]
      by_cases hl : at_ < ids.length
      · rw [if_pos hl]
        exact ahd_top h.iv.top (key _ hl)
      · rw [if_neg hl]
        exact ⟨by unfold hasP; rw [isE_top]; rfl, by unfold hasP; rw [isE_bot]; rfl, by decide, .inl rfl⟩
    · rw [if_neg h0]
      by_cases hl : at_ < ids.length
      · rw [if_pos hl]
        have k1 := key (at_ - 1) (by omega)
        have k2 := key at_ hl
        have hr := List.pairwise_iff_getElem.1 h.chain (at_ - 1) at_ (by omega) hl (by omega)
        have e1 : ids.getD (at_ - 1) vTop = ids[at_ - 1] := by rw [List.getD_eq_getElem?_getD, List.getElem?_eq_getElem (by omega)]; rfl
        have e2 : ids.getD at_ vTop = ids[at_] := by rw [List.getD_eq_getElem?_getD, List.getElem?_eq_getElem hl]; rfl
        rw [← e1, ← e2] at hr
        refine ⟨hasP_iff.2 (.inr k1), hasP_iff.2 (.inr k2), fun e => ?_, .inr (.inr ⟨fun e => h.iv.bot (e ▸ k1), fun e => h.iv.top (e ▸ k2), hr⟩)⟩
        obtain ⟨F, hF⟩ := h.iv.acy
        have := reach_lt hF hr k1
        rw [e] at this
        omega
      · rw [if_neg hl]
        exact ahd_bot h.iv.bot (key _ (by omega))
  · rw [fresh_len]
    have := h.few
    omega
variable {up dn : Vx} {ls : List BA} {m : Nat}
theorem add_get_old (hn : (keysP (addP ps up dn (fresh i m) ls)).Nodup) {q : PL} (hq : q ∈ ps) : getP (addP ps up dn (fresh i m) ls) q.v = some (gA up dn (fresh i m) q) := by
  have h1 : gA up dn (fresh i m) q ∈ addP ps up dn (fresh i m) ls := by rw [addP_gA]; exact List.mem_map.2 ⟨q, List.mem_append.2 (.inl hq), rfl⟩
  have := getP_of hn h1
  rw [(gA_v _ _ _ _).1] at this
  exact this
theorem add_frs_old (hn : (keysP (addP ps up dn (fresh i m) ls)).Nodup) {v u : Vx} (h : u ∈ frsP ps v) : u ∈ frsP (addP ps up dn (fresh i m) ls) v := by
  obtain ⟨q, hq, e, hu⟩ := frsP_mem h
  unfold frsP
  rw [← e, add_get_old hn hq]
  exact (gA_fr _ _ _ _ _).2 (.inl hu)
theorem add_frs_new (hn : (keysP (addP ps up dn (fresh i m) ls)).Nodup) (hd : dn ∉ fresh i m) {k : Nat} (hk : k < m) : frsP (addP ps up dn (fresh i m) ls) ⟨hb i, (k : Int)⟩ = [abv up (fresh i m) k] := by
  have h1 : newP up dn (fresh i m) ls k ∈ addP ps up dn (fresh i m) ls := addP_new hd (by rw [fresh_len]; exact hk)
  have h2 := frsP_of hn h1
  have e : (newP up dn (fresh i m) ls k).v = ⟨hb i, (k : Int)⟩ := fresh_getD hk vTop
  rw [e] at h2
  exact h2
/-- a new line is behind those that came before it, and behind what the first one is behind -/
theorem add_reach (hn : (keysP (addP ps up dn (fresh i m) ls)).Nodup) (hd : dn ∉ fresh i m) : ∀ (k : Nat), k < m → Gr.Reach (frsP (addP ps up dn (fresh i m) ls)) ⟨hb i, (k : Int)⟩ up ∧ ∀ j < k, Gr.Reach (frsP (addP ps up dn (fresh i m) ls)) ⟨hb i, (k : Int)⟩ ⟨hb i, (j : Int)⟩
  | 0, hk => ⟨.one (by rw [add_frs_new hn hd hk]; exact List.mem_singleton.2 rfl), fun j hj => absurd hj (Nat.not_lt_zero j)⟩
  | k + 1, hk => by
    obtain ⟨ih1, ih2⟩ := add_reach hn hd k (by omega)
    have e : abv up (fresh i m) (k + 1) = ⟨hb i, (k : Int)⟩ := fresh_getD (by omega) vTop
    have h1 : (⟨hb i, (k : Int)⟩ : Vx) ∈ frsP (addP ps up dn (fresh i m) ls) ⟨hb i, ((k + 1 : Nat) : Int)⟩ := by
      rw [add_frs_new hn hd hk, e]
      exact List.mem_singleton.2 rfl
    refine ⟨Gr.Reach.front h1 ih1, fun j hj => ?_⟩
    by_cases hjk : j = k
    · subst hjk; exact .one h1
    · exact Gr.Reach.front h1 (ih2 j (by omega))
theorem add_reach_dn (hn : (keysP (addP ps up dn (fresh i m) ls)).Nodup) (hd : dn ∉ fresh i m) (hm : 0 < m) (hk : dn ∈ keysP ps) : ∀ j < m, Gr.Reach (frsP (addP ps up dn (fresh i m) ls)) dn ⟨hb i, (j : Int)⟩ := fun j hj => by
  obtain ⟨q, hq, e⟩ := List.mem_map.1 hk
  have e : q.v = dn := e
  subst e
  have h1 : (⟨hb i, ((m - 1 : Nat) : Int)⟩ : Vx) ∈ frsP (addP ps up q.v (fresh i m) ls) q.v := by
    unfold frsP
    rw [add_get_old hn hq]
    refine (gA_fr _ _ _ _ _).2 (.inr ⟨rfl, ?_⟩)
    rw [(abv_last (up := up) (ids := fresh i m) (fun h => by have := congrArg List.length h; rw [fresh_len] at this; simp at this; omega)).1, fresh_len, fresh_getD (by omega)]
  by_cases hjm : j = m - 1
  · subst hjm; exact .one h1
  · exact Gr.Reach.front h1 ((add_reach hn hd (m - 1) (by omega)).2 j (by omega))
/-- lines are put in -/
theorem Pl.add (h : Pl i ps ids ts) (hi : i < 30) {at_ : Nat} (hm : 0 < m) (hm6 : m ≤ 6) (ha : at_ ≤ ids.length) (hls : ls.length = m) : Pl (i + 1) (addP ps (upAt ids at_) (dnAt ids at_) (fresh i m) ls) (ids.take at_ ++ fresh i m ++ ids.drop at_) (ts.take at_ ++ ls ++ ts.drop at_) := by
  have hok := h.ok hi hm hm6 ha
  have hI := h.iv.add (ts := ls) (by omega) hok
  obtain ⟨up, hup⟩ : ∃ u, upAt ids at_ = u := ⟨_, rfl⟩
  obtain ⟨dn, hdn⟩ : ∃ u, dnAt ids at_ = u := ⟨_, rfl⟩
  rw [hup, hdn] at hok hI ⊢
  have hd := hok.not_dn
  have hnd := hI.nd
  have hnew := h.fresh_new (by omega : i < 100) m
  have hkeys := add_keys ps up dn (fresh i m) ls
  have hids : ids.take at_ ++ ids.drop at_ = ids := List.take_append_drop at_ ids
  have hold : ∀ {a b}, Gr.Reach (frsP ps) b a → Gr.Reach (frsP (addP ps up dn (fresh i m) ls)) b a := fun hr => hr.sub fun x y => add_frs_old hnd
  have hnf : ∀ x ∈ ids, x ∉ fresh i m := fun x hx hf => hnew x hf (h.mem x hx)
  have hchain := h.chain
  have hn0 := h.nd
  rw [← hids] at hchain hn0
  rw [List.pairwise_append] at hchain
  obtain ⟨c1, c2, c3⟩ := hchain
  -- what stands ahead of the place is ahead of what is put in
  have hA : ∀ a ∈ ids.take at_, ∀ k < m, Gr.Reach (frsP (addP ps up dn (fresh i m) ls)) ⟨hb i, (k : Int)⟩ a := fun a hma k hk => by
    have h1 := (add_reach (ls := ls) hnd hd k hk).1
    obtain ⟨j, hj⟩ := List.getElem?_of_mem hma
    have hjl := (List.getElem?_eq_some_iff.1 hj).1
    rw [List.length_take] at hjl
    have hjl2 : j < at_ := by omega
    rw [List.getElem?_take_of_lt hjl2] at hj
    have hu : up = ids.getD (at_ - 1) vTop := by rw [← hup]; unfold upAt; rw [if_neg (by omega)]
    by_cases hja : j = at_ - 1
    · have e : up = a := by
        rw [hu, List.getD_eq_getElem?_getD, ← hja, hj]
        rfl
      rw [← e]
      exact h1
    · have hlt : at_ - 1 < ids.length := by omega
      have hr := List.pairwise_iff_getElem.1 h.chain j (at_ - 1) (List.getElem?_eq_some_iff.1 hj).1 hlt (by omega)
      have e1 : up = ids[at_ - 1] := by rw [hu, List.getD_eq_getElem?_getD, List.getElem?_eq_getElem hlt]; rfl
      rw [← e1, (List.getElem?_eq_some_iff.1 hj).2] at hr
      exact Gr.Reach.trans h1 (hold hr)
  -- and what is put in is ahead of what stands behind the place
  have hB : ∀ b ∈ ids.drop at_, ∀ k < m, Gr.Reach (frsP (addP ps up dn (fresh i m) ls)) b ⟨hb i, (k : Int)⟩ := fun b hmb k hk => by
    obtain ⟨j, hj⟩ := List.getElem?_of_mem hmb
    rw [List.getElem?_drop] at hj
    have hjl := (List.getElem?_eq_some_iff.1 hj).1
    have hlt : at_ < ids.length := by omega
    have hd2 : dn = ids.getD at_ vTop := by rw [← hdn]; unfold dnAt; rw [if_pos hlt]
    have hdk : dn ∈ keysP ps := by rw [hd2]; exact h.mem _ (getD_mem hlt _)
    have h1 := add_reach_dn (ls := ls) hnd hd hm hdk k hk
    by_cases hja : j = 0
    · have e : dn = b := by
        rw [hja, Nat.add_zero] at hj
        rw [hd2, List.getD_eq_getElem?_getD, hj]
        rfl
      rw [← e]
      exact h1
    · have hr := List.pairwise_iff_getElem.1 h.chain at_ (at_ + j) hlt hjl (by omega)
      have e1 : dn = ids[at_] := by rw [hd2, List.getD_eq_getElem?_getD, List.getElem?_eq_getElem hlt]; rfl
      rw [← e1, (List.getElem?_eq_some_iff.1 hj).2] at hr
      exact Gr.Reach.trans (hold hr) h1
  refine ⟨hI, ?_, ?_, ?_, ?_, ?_, ?_, ?_⟩
  · rw [List.append_assoc, List.nodup_append]
    rw [List.nodup_append] at hn0
    refine ⟨hn0.1, ?_, ?_⟩
    · rw [List.nodup_append]
      exact ⟨fresh_nd i m, hn0.2.1, fun x hx y hy e => hnf y (List.mem_of_mem_drop hy) (e ▸ hx)⟩
    · intro x hx y hy e
      rcases List.mem_append.1 hy with hy | hy
      · exact hnf x (List.mem_of_mem_take hx) (e ▸ hy)
      · exact hn0.2.2 x hx y hy e
  · rw [List.append_assoc, List.pairwise_append]
    refine ⟨c1.imp hold, ?_, ?_⟩
    · rw [List.pairwise_append]
      refine ⟨?_, c2.imp hold, ?_⟩
      · rw [List.pairwise_iff_getElem]
        intro j k hj hk hjk
        rw [fresh_len] at hj hk
        have e1 : (fresh i m)[j]'(by rw [fresh_len]; exact hj) = ⟨hb i, (j : Int)⟩ := (List.getElem?_eq_some_iff.1 (fresh_get hj)).2
        have e2 : (fresh i m)[k]'(by rw [fresh_len]; exact hk) = ⟨hb i, (k : Int)⟩ := (List.getElem?_eq_some_iff.1 (fresh_get hk)).2
        rw [e1, e2]
        exact (add_reach (ls := ls) hnd hd k hk).2 j hjk
      · intro a hma b hmb
        obtain ⟨_, k, hk, rfl⟩ := fresh_mem hma
        exact hB b hmb k hk
    · intro a hma b hmb
      rcases List.mem_append.1 hmb with hmb | hmb
      · obtain ⟨_, k, hk, rfl⟩ := fresh_mem hmb
        exact hA a hma k hk
      · exact hold (c3 a hma b hmb)
  · intro q hq
    have hmm : ∀ x, x ∈ ids.take at_ ++ fresh i m ++ ids.drop at_ ↔ x ∈ ids ∨ x ∈ fresh i m := fun x => by
      rw [List.mem_append, List.mem_append]
      conv => rhs; rw [← hids, List.mem_append]
      constructor
      · rintro ((h | h) | h)
        · exact .inl (.inl h)
        · exact .inr h
        · exact .inl (.inr h)
      · rintro ((h | h) | h)
        · exact .inl (.inl h)
        · exact .inr h
        · exact .inl (.inr h)
    rw [hmm]
    rcases addP_mem hq hd with ⟨q0, h0, ev, _, _, ek, _⟩ | ⟨k, hk, rfl⟩
    · rw [ek, ev, h.live q0 h0]
      exact ⟨.inl, fun hx => hx.resolve_right fun hf => hnew _ hf (List.mem_map.2 ⟨q0, h0, rfl⟩)⟩
    · have e : (newP up dn (fresh i m) ls k).kills = [] := rfl
      rw [e]
      exact ⟨fun _ => .inr (getD_mem hk _), fun _ => rfl⟩
  · intro v hv
    rw [hkeys]
    rw [List.mem_append, List.mem_append] at hv
    rcases hv with (hv | hv) | hv
    · exact List.mem_append.2 (.inl (h.mem v (List.mem_of_mem_take hv)))
    · exact List.mem_append.2 (.inr hv)
    · exact List.mem_append.2 (.inl (h.mem v (List.mem_of_mem_drop hv)))
  · have ho : ∀ v ∈ ids, txO (addP ps up dn (fresh i m) ls) v = txO ps v := fun v hv => by
      obtain ⟨q, hq⟩ := getP_mem (h.mem v hv)
      obtain ⟨hmq, e⟩ := getP_some hq
      unfold txO
      rw [hq, ← e, add_get_old hnd hmq]
      exact (gA_v _ _ _ _).2.1
    have hf : (fresh i m).map (txO (addP ps up dn (fresh i m) ls)) = ls := by
      refine List.ext_getElem? fun k => ?_
      rw [List.getElem?_map]
      by_cases hk : k < m
      · rw [fresh_get hk]
        have h1 : newP up dn (fresh i m) ls k ∈ addP ps up dn (fresh i m) ls := addP_new hd (by rw [fresh_len]; exact hk)
        have h2 := getP_of hnd h1
        have e : (newP up dn (fresh i m) ls k).v = ⟨hb i, (k : Int)⟩ := fresh_getD hk vTop
        rw [e] at h2
        show some (txO _ _) = _
        unfold txO
        rw [h2]
        show some (ls.getD k BA0) = _
        rw [List.getD_eq_getElem?_getD, List.getElem?_eq_getElem (by omega)]
        rfl
      · rw [List.getElem?_eq_none (by rw [fresh_len]; omega), List.getElem?_eq_none (by omega)]
        rfl
    rw [List.map_append, List.map_append, hf, h.txt, ← List.map_take, ← List.map_drop]
    congr 1
    · congr 1
      exact List.map_congr_left fun v hv => (ho v (List.mem_of_mem_take hv)).symm
    · exact List.map_congr_left fun v hv => (ho v (List.mem_of_mem_drop hv)).symm
  · intro q hq
    rcases addP_mem hq hd with ⟨q0, h0, ev, _, _, ek, _⟩ | ⟨k, hk, rfl⟩
    · rw [ev, ek]
      obtain ⟨o1, o2⟩ := h.old q0 h0
      exact ⟨o1.imp fun j hj => ⟨by omega, hj.2⟩, fun y hy => (o2 y hy).imp fun j hj => ⟨by omega, hj.2⟩⟩
    · rw [fresh_len] at hk
      have e : (newP up dn (fresh i m) ls k).v = ⟨hb i, (k : Int)⟩ := fresh_getD hk vTop
      rw [e]
      exact ⟨⟨i, by omega, rfl⟩, fun y hy => by cases hy⟩
  · rw [add_len, fresh_len]
    have := h.few
    omega
end Go.Proofs.Ytjcihaohpbmogaa.Oct
