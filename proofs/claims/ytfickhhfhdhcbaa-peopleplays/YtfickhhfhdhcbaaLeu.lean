/-
  Layer 15 (people): outOfTeams, Leave, Out, Put whole.
-/
import Derived.Test.YtfickhhfhdhcbaaLev
namespace Go.Proofs.Ytfickhhfhdhcbaa.Oct
open Go.RowKit
set_option linter.unusedSimpArgs false
set_option linter.unusedVariables false

/-- what the range over the teams keeps -/
structure TInv (w wr : World) (tb r0 : Nat) (es left : List Ent) (l : List Tm) (u : Hs) : Prop where
  r : HMR wr tb r0 es left
  kp : Keep (fun k => k ∈ l.map (·.blk)) w wr
  a : ∀ t ∈ l, t.name ∈ left.map (·.k) → MP wr t.blk (unit t.mem)
  b : ∀ t ∈ l, t.name ∉ left.map (·.k) → MP wr t.blk (unit (kout t.mem u))
  c : ∀ e ∈ left, ∃ t ∈ l, t.name = e.k ∧ e.v = .map (some t.blk)
  n : (left.map (·.k)).Nodup
theorem inj_of_nodup {α β : Type} {f : α → β} : ∀ {l : List α}, (l.map f).Nodup → ∀ {a b : α}, a ∈ l → b ∈ l → f a = f b → a = b
  | [], _, a, b, ha, _, _ => by cases ha
  | x :: l, hn, a, b, ha, hb, e => by
    rw [List.map_cons, List.nodup_cons] at hn
    rcases List.mem_cons.1 ha with h1 | h1
    · rcases List.mem_cons.1 hb with h2 | h2
      · rw [h1, h2]
      · exact absurd (List.mem_map.2 ⟨b, h2, by rw [← h1]; exact e.symm⟩) hn.1
    · rcases List.mem_cons.1 hb with h2 | h2
      · exact absurd (List.mem_map.2 ⟨a, h1, by rw [← h2]; exact e⟩) hn.1
      · exact inj_of_nodup hn.2 h1 h2 e
theorem TInv.next {w wr w3 w4 : World} {tb r0 : Nat} {es left left' : List Ent} {l : List Tm} {u : Hs} {e : Ent} {t : Tm} (h : TInv w wr tb r0 es left l u) (hr : w.heap.size ≤ r0) (hlt : ∀ t ∈ l, t.blk < w.heap.size) (hnd : (tb :: l.map (·.blk)).Nodup) (hnm : (l.map (·.name)).Nodup)
    (hp : left.Perm (e :: left')) (h3 : HMR w3 tb r0 es left') (hg : wr.grownBy w3 (some r0)) (ht : t ∈ l) (hn : t.name = e.k) (hd : MP w4 t.blk (unit (kout t.mem u))) (hg4 : w3.grownBy w4 (some t.blk)) : TInv w w4 tb r0 es left' l u := by
  have htb : tb ∉ l.map (·.blk) := (List.nodup_cons.1 hnd).1
  have hbl := (List.nodup_cons.1 hnd).2
  have hsz := h.kp.size
  have k1 : left'.map (·.k) = left'.map (·.k) := rfl
  have hnl : ((e :: left').map (·.k)).Nodup := ((hp.map (·.k)).nodup_iff).1 h.n
  rw [List.map_cons, List.nodup_cons] at hnl
  have keep4 : ∀ t2 ∈ l, t2 ≠ t → ∀ ks, MP wr t2.blk (unit ks) → MP w4 t2.blk (unit ks) := fun t2 h2 hne ks hm => by
    have hb2 : t2.blk ≠ t.blk := fun e' => hne (inj_of_nodup hbl h2 ht e')
    have l2 := hlt t2 h2
    refine (hm.same (hg.block t2.blk (by omega) (fun e' => by cases e'; omega))).same (hg4.block t2.blk (by have := hg.size; omega) (fun e' => hb2 (Option.some.inj e')))
  have htl := hlt t ht
  refine ⟨h3.same (hg4.block tb h3.lt.1 (fun e' => htb (by cases e'; exact List.mem_map.2 ⟨t, ht, rfl⟩))) (hg4.block r0 h3.lt.2.1 (fun e' => by cases e'; omega)), ?_, ?_, ?_, ?_, hnl.2⟩
  · refine (h.kp.trans (Keep.grown (S := fun k => k = r0) hg rfl) (fun j hj hl => by have e' : j = r0 := hj; omega)).trans (Keep.grown (S := fun k => k ∈ l.map (·.blk)) hg4 (List.mem_map.2 ⟨t, ht, rfl⟩)) (fun _ hj _ => hj)
  · intro t2 h2 hm
    have hne : t2 ≠ t := fun e' => hnl.1 (by rw [← hn, ← e']; exact hm)
    exact keep4 t2 h2 hne _ (h.a t2 h2 ((hp.map (·.k)).mem_iff.2 (List.mem_cons_of_mem _ hm)))
  · intro t2 h2 hm
    by_cases hne : t2 = t
    · rw [hne]; exact hd
    · refine keep4 t2 h2 hne _ (h.b t2 h2 (fun hm2 => ?_))
      have hm3 := (hp.map (·.k)).mem_iff.1 hm2
      rcases List.mem_cons.1 hm3 with e' | e'
      · exact hne (inj_of_nodup hnm h2 ht (by rw [e', hn]))
      · exact hm e'
  · intro e2 he2
    exact h.c e2 (hp.mem_iff.2 (List.mem_cons_of_mem _ he2))
set_option maxRecDepth 100000 in
set_option maxHeartbeats 1000000 in
theorem outTeams_is {w : World} {tb : Nat} {l : List Tm} (hm : MP w tb (teamsKv l)) (hs : ∀ t ∈ l, MP w t.blk (unit t.mem)) (hnd : (tb :: l.map (·.blk)).Nodup) (u : Hs) (hu : u.length ≤ 140737488355328) :
    Calls Try.prog 55 #[.map (some tb), hv u] w fun e w' => e = .returned (.tuple #[]) ∧ Keep (fun k => k ∈ l.map (·.blk)) w w' ∧ ∀ t ∈ l, MP w' t.blk (unit (kout t.mem u)) := by
  have hnm : (l.map (·.name)).Nodup := by have := hm.nodup; rwa [teamsKv_keys] at this
  obtain ⟨es, hme, he⟩ := hm
  obtain ⟨w1, hrun, hR, hbel, hsz⟩ := hme.range (t := 70) Try.underlying70
  obtain ⟨r0, hr0⟩ : ∃ r0, w.heap.size = r0 := ⟨_, rfl⟩
  rw [hr0] at hrun hR
  have hks : es.map (·.k) = l.map (·.name) := by
    have := congrArg (List.map (·.1)) he
    rw [List.map_map, teamsKv_keys] at this
    exact this
  have HF : Hid (w.heap.size ≤ r0 ∧ (∀ t ∈ l, t.blk < w.heap.size) ∧ (tb :: l.map (·.blk)).Nodup ∧ (l.map (·.name)).Nodup ∧ u.length ≤ 140737488355328) := ⟨Nat.le_of_eq hr0, fun t ht => (hs t ht).lt, hnd, hnm, hu⟩
  have HC : Hid (TInv w w1 tb r0 es es l u) := by
    refine ⟨hR, Keep.below hbel, fun t ht _ => (hs t ht).same (hbel.block _ (hs t ht).lt), fun t ht hn => absurd ?_ hn, fun e hee => ?_, by rw [hks]; exact hnm⟩
    · rw [hks]; exact List.mem_map.2 ⟨t, ht, rfl⟩
    · have : (e.k, e.v) ∈ teamsKv l := by rw [← he]; exact List.mem_map.2 ⟨e, hee, rfl⟩
      obtain ⟨t, ht, hte⟩ := List.mem_map.1 this
      exact ⟨t, ht, congrArg Prod.fst hte, (congrArg Prod.snd hte).symm⟩
  obtain ⟨s, hsv⟩ : ∃ s, hv u = s := ⟨_, rfl⟩
  have HS : Hid (hv u = s) := hsv
  rw [hsv]
  clear hme he hR hbel hsz hr0 hks hs hnd hnm hu hsv
  go_enter Try.func55, Try.ntmps55
  go_wp2
  go_loopw [] (fun wr => ∃ left : List Ent, Hid (TInv w wr tb r0 es left l u)) (fun wr => wr.rangeLeft tb r0)
  case atStart => exact ⟨es, HC.out⟩
  case round =>
    obtain ⟨left, HB⟩ := hrel
    have HLL : Hid (wr.rangeLeft tb r0 = left.length) := HB.out.r.left
    clear hrun
    rcases HB.out.r.next 0 with ⟨h0, hrun⟩ | ⟨e, left', w3, he, hp, hrun, h3, hg3, hz3, hen⟩
    · have HE : Hid (left = []) := h0
      clear h0
      go_wp2
      go_end0
      refine ⟨rfl, HB.out.kp, fun t ht => HB.out.b t ht ?_⟩
      rw [HE.out]
      simp
    · obtain ⟨t, ht, htn, htv⟩ := HB.out.c e he
      have hmt : MP w3 t.blk (unit t.mem) := (HB.out.a t ht (by rw [htn]; exact List.mem_map.2 ⟨e, he, rfl⟩)).same (hg3.block t.blk (by have h1 := HF.out.2.1 t ht; have h2 := HB.out.kp.size; omega) (fun e' => by cases e'; have h1 := HF.out.2.1 t ht; have h2 := HF.out.1; omega))
      obtain ⟨w4, hdel, hd1, hd2, hd3⟩ := hmt.del (t := 48) (h := u) Try.underlying48 (len_max HF.out.2.2.2.2) 0
      rw [unit_del] at hd1
      rw [HS.out] at hdel
      obtain ⟨bt, hbt⟩ : ∃ bt, t.blk = bt := ⟨_, rfl⟩
      rw [htv] at hrun hen
      rw [hbt] at hrun hen hdel
      have HE : Hid (TInv w w4 tb r0 es left' l u ∧ left.length = left'.length + 1) := ⟨HB.out.next HF.out.1 HF.out.2.1 HF.out.2.2.1 HF.out.2.2.2.1 hp h3 hg3 ht htn hd1 hd2, by rw [hp.length_eq]; rfl⟩
      clear he hp h3 hg3 hz3 ht htn htv hmt hd1 hd2 hd3 hbt
      go_wp2
      go_roundw
      case rel => exact ⟨left', HE.out.1⟩
      case measure => rw [HE.out.1.r.left, HLL.out, HE.out.2]; omega
#print axioms outTeams_is
end Go.Proofs.Ytfickhhfhdhcbaa.Oct
