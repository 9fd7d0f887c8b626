/-
  Layer 12 (deps): steps from hashes to hashes: a map of lists.
-/
import Derived.Test.YtijkpkcopjkhkaaApp
namespace Go.Proofs.Ytijkpkcopjkhkaa.Oct
open Go.RowKit

/-- a map of lists of hashes, each in a row of its own, from B on -/
structure StE (w : World) (b B : Nat) (es : List Ent) (ms : List (Hs × List Hs)) : Prop where
  hm : HM w b es
  keys : es.map (·.k) = ms.map (·.1)
  rows : ∀ (i : Nat) (e : Ent) (m : Hs × List Hs), es[i]? = some e → ms[i]? = some m → w.ownsRow B 34 32 e.v m.2.length (UU m.2)
  apart : ∀ (i j : Nat) (e e' : Ent), i ≠ j → es[i]? = some e → es[j]? = some e' → e.v.ownBlock = none ∨ e.v.ownBlock ≠ e'.v.ownBlock
  lens : ∀ m ∈ ms, ∀ h ∈ m.2, h.length = 32
def StM (w : World) (b B : Nat) (ms : List (Hs × List Hs)) : Prop := ∃ es, StE w b B es ms
/-- a list put behind what stands at a key -/
def appS (ms : List (Hs × List Hs)) (h : Hs) (xs : List Hs) : List (Hs × List Hs) := if h ∈ ms.map (·.1) then ms.map (fun m => if m.1 = h then (m.1, m.2 ++ xs) else m) else ms ++ [(h, xs)]
/-- what stands at a key -/
def getS (ms : List (Hs × List Hs)) (h : Hs) : List Hs := ((ms.find? (·.1 == h)).map (·.2)).getD []

theorem own_mono {w : World} {B B' : Nat} {e : TypeId} {sz : Nat} {v : Value} {n : Nat} {xs : List Value} (h : w.ownsRow B e sz v n xs) (hB : B' ≤ B) : w.ownsRow B' e sz v n xs := by
  rcases h with ⟨h1, h2 | ⟨g, cap, cur, h3, h4, h5⟩⟩
  · exact ⟨h1, .inl h2⟩
  · exact ⟨h1, .inr ⟨g, cap, cur, h3, by omega, h5⟩⟩
section
variable {w w' : World} {b B : Nat} {es : List Ent} {ms : List (Hs × List Hs)} {h : Hs}
theorem StE.len (hs : StE w b B es ms) : es.length = ms.length := by
  have := congrArg List.length hs.keys
  simpa using this
theorem ownBlock_ne_map {w : World} {b B : Nat} {es : List Ent} {v : Value} {n : Nat} {xs : List Value} (hm : HM w b es) (ho : w.ownsRow B 34 32 v n xs) : v.ownBlock ≠ some b := by
  rcases ho.2 with ⟨rfl, _⟩ | ⟨g, cap, cur, rfl, _, hg, _⟩
  · simp [Value.ownBlock]
  · obtain ⟨clock, hb, _⟩ := hm
    intro hc
    have : g = b := by simpa [Value.ownBlock] using hc
    subst this
    rw [hb] at hg
    cases hg
theorem StE.kept {row : Option Nat} (hs : StE w b B es ms) (hg : w.grownBy w' row) (hne : some b ≠ row) (hr : ∀ e ∈ es, e.v.ownBlock = none ∨ e.v.ownBlock ≠ row) : StE w' b B es ms :=
  ⟨hs.hm.kept hg hne, hs.keys, fun i e m he hm => (hs.rows i e m he hm).kept hg (hr e (List.mem_of_getElem? he)), hs.apart, hs.lens⟩
theorem StE.below (hs : StE w b B es ms) (hb : Below w.heap.size w w') : StE w' b B es ms := by
  refine hs.kept (row := none) ⟨hb.os, hb.tape, hb.output, hb.size, fun k hk _ => hb.block k hk⟩ (by simp) (fun e he => ?_)
  cases e.v.ownBlock with
  | none => exact .inl rfl
  | some g => exact .inr (by simp)
theorem StM.below (hs : StM w b B ms) (hb : Below w.heap.size w w') : StM w' b B ms := by
  obtain ⟨es, h1⟩ := hs
  exact ⟨es, h1.below hb⟩
theorem StM.lt (hs : StM w b B ms) : b < w.heap.size := by
  obtain ⟨es, h1⟩ := hs
  exact h1.hm.lt
theorem StM.made (w : World) (B : Nat) : StM (w.alloc (.map #[] 0)) w.heap.size B [] := ⟨[], HM.made w, rfl, by simp, by simp, by simp⟩
theorem zero26 (W : World) : (zeroValue 26).run Try.prog W = .ok (.slice none 0 0) W := by kernel_rfl
theorem getS_at {i : Nat} {m : Hs × List Hs} (hnd : (ms.map (·.1)).Nodup) (hi : ms[i]? = some m) : getS ms m.1 = m.2 := by
  unfold getS
  have : ms.find? (·.1 == m.1) = some m := by
    obtain ⟨hlt, he⟩ := List.getElem?_eq_some_iff.1 hi
    rw [List.find?_eq_some_iff_getElem]
    refine ⟨by simp, i, hlt, he, fun j hj => ?_⟩
    have hp := List.pairwise_iff_getElem.1 (List.nodup_iff_pairwise_ne.1 hnd) j i (by simp; omega) (by simpa using hlt) hj
    simp only [List.getElem_map, he] at hp
    simpa using hp
  rw [this]; rfl
theorem getS_no (hn : h ∉ ms.map (·.1)) : getS ms h = [] := by
  unfold getS
  have : ms.find? (·.1 == h) = none := by
    refine List.find?_eq_none.2 fun m hm => ?_
    have : m.1 ≠ h := fun e => hn (List.mem_map.2 ⟨m, hm, e⟩)
    simpa using this
  rw [this]; rfl
theorem StE.nodup (hs : StE w b B es ms) : (ms.map (·.1)).Nodup := by
  obtain ⟨clock, _, _, _, h4, _⟩ := hs.hm
  rw [← hs.keys]; exact h4
theorem StE.partner (hs : StE w b B es ms) {i : Nat} {e : Ent} (he : es[i]? = some e) : ∃ m, ms[i]? = some m ∧ m.1 = e.k := by
  have hlt : i < ms.length := by rw [← hs.len]; exact (List.getElem?_eq_some_iff.1 he).1
  obtain ⟨m, hm⟩ : ∃ m, ms[i]? = some m := ⟨_, List.getElem?_eq_getElem hlt⟩
  refine ⟨m, hm, ?_⟩
  have := congrArg (·[i]?) hs.keys
  simp only [List.getElem?_map, he, hm, Option.map_some] at this
  exact (Option.some.inj this).symm
/-- what stands at a key, read -/
theorem StM.look (hs : StM w b B ms) (hl : h.length = 32) : ∃ a n c, (Instr.lookup 48 (.map (some b)) (.agg (U h).toArray) false).run Try.prog w = .ok (.slice a n c) w ∧ HsR w a n (getS ms h) := by
  obtain ⟨es, hs⟩ := hs
  have hr := hs.hm.look (t := 48) (E := 26) Try.underlying48 hl false (zero26 w)
  cases hk : hlook h es with
  | none =>
    have hn : h ∉ ms.map (·.1) := by
      rw [← hs.keys]
      intro hc
      obtain ⟨e, he, hke⟩ := List.mem_map.1 hc
      exact hlook_none hk e he hke
    refine ⟨none, 0, 0, ?_, by rw [getS_no hn]; exact HsR.nil _ _⟩
    rw [hk] at hr
    exact hr
  | some e =>
    obtain ⟨h1, h2⟩ := hlook_some hk
    obtain ⟨i, hi, hei⟩ := List.mem_iff_getElem.1 h1
    have hee : es[i]? = some e := by rw [List.getElem?_eq_getElem hi, hei]
    obtain ⟨m, hme, hkm⟩ := hs.partner hee
    have hrow := hs.rows i e m hee hme
    obtain ⟨a, c, e1, e2, _⟩ := own_read hrow (hs.lens _ (List.mem_of_getElem? hme))
    refine ⟨a, m.2.length, c, ?_, ?_⟩
    · rw [hk] at hr
      rw [← e1]
      exact hr
    · have := getS_at hs.nodup hme
      rw [hkm, h2] at this
      rw [this]; exact e2
end
#print axioms StM.look

/-- the first step of 'm[h] = append(m[h], ..)': the entry -/
theorem StE.entry {w : World} {b B : Nat} {es : List Ent} {ms : List (Hs × List Hs)} {h : Hs} (hs : StE w b B es ms) (hl : h.length = 32) :
    ∃ (w1 : World) (i : Nat) (e : Ent) (es1 : List Ent) (xs : List Hs) (ms1 : List (Hs × List Hs)), (Instr.mapEntry 48 (.map (some b)) (.agg (U h).toArray)).run Try.prog w = .ok (.tuple #[e.v, .int .i64 (e.b : Int)]) w1 ∧ StE w1 b B es1 ms1 ∧ es1[i]? = some e ∧ ms1[i]? = some (h, xs) ∧ e.k = h ∧ (∀ ys, appS ms h ys = ms1.map (fun m => if m.1 = h then (m.1, m.2 ++ ys) else m)) ∧ w.grownBy w1 (some b) ∧ w1.heap.size = w.heap.size := by
  obtain ⟨w1, e, nb, hrun, hm, he, hke, hor, hg, hsz⟩ := hs.hm.entry (t := 48) (E := 26) Try.underlying48 hl (z := .slice none 0 0) zero26
  have hrows : ∀ x ∈ es, x.v.ownBlock = none ∨ x.v.ownBlock ≠ some b := by
    intro x hx
    obtain ⟨j, hj, hxj⟩ := List.mem_iff_getElem.1 hx
    have hxe : es[j]? = some x := by rw [List.getElem?_eq_getElem hj, hxj]
    obtain ⟨m, hm2, _⟩ := hs.partner hxe
    exact .inr (ownBlock_ne_map hs.hm (hs.rows j x m hxe hm2))
  have krows : ∀ (j : Nat) (x : Ent) (m : Hs × List Hs), es[j]? = some x → ms[j]? = some m → w1.ownsRow B 34 32 x.v m.2.length (UU m.2) := fun j x m hx hmm =>
    (hs.rows j x m hx hmm).kept hg (hrows x (List.mem_of_getElem? hx))
  cases hk : hlook h es with
  | some e0 =>
    rw [hk] at hm he hor
    simp only [Option.isSome_some, if_true] at hm he
    obtain ⟨i, hi, hei⟩ := List.mem_iff_getElem.1 he
    have hee : es[i]? = some e := by rw [List.getElem?_eq_getElem hi, hei]
    obtain ⟨m, hme, hkm⟩ := hs.partner hee
    refine ⟨w1, i, e, es, m.2, ms, hrun, ⟨hm, hs.keys, krows, hs.apart, hs.lens⟩, hee, by rw [hme, ← hke, ← hkm], hke, fun ys => ?_, hg, hsz⟩
    unfold appS
    rw [if_pos (by rw [← hs.keys, ← hke]; exact List.mem_map.2 ⟨e, he, rfl⟩)]
  | none =>
    rw [hk] at hm he hor
    simp only [Option.isSome_none, Bool.false_eq_true, if_false] at hm he
    have hev : e.v = .slice none 0 0 := by
      rcases hor with h1 | ⟨_, h1⟩
      · cases h1
      · exact h1
    have hno : h ∉ ms.map (·.1) := by
      rw [← hs.keys]
      intro hc
      obtain ⟨x, hx, hkx⟩ := List.mem_map.1 hc
      exact hlook_none hk x hx hkx
    have hel : e = ⟨h, .slice none 0 0, nb⟩ := by
      rcases List.mem_append.1 he with hx | hx
      · exact absurd hke (hlook_none hk e hx)
      · simpa using hx
    refine ⟨w1, es.length, e, es ++ [⟨h, .slice none 0 0, nb⟩], [], ms ++ [(h, [])], hrun, ⟨hm, by simp [hs.keys], ?_, ?_, ?_⟩, by simp [hel], by rw [hs.len]; simp, hke, fun ys => ?_, hg, hsz⟩
    · intro j x m hx hmm
      by_cases hj : j < es.length
      · rw [List.getElem?_append_left hj] at hx
        rw [List.getElem?_append_left (by rw [← hs.len]; exact hj)] at hmm
        exact krows j x m hx hmm
      · have hj2 : j = es.length := by
          have := (List.getElem?_eq_some_iff.1 hx).1
          simp at this; omega
        subst hj2
        rw [hs.len] at hmm
        simp at hx hmm
        subst hx hmm
        exact World.ownsRow_nil _ _ _ _
    · intro j k x y hjk hx hy
      by_cases hj : j < es.length
      · rw [List.getElem?_append_left hj] at hx
        by_cases hk2 : k < es.length
        · rw [List.getElem?_append_left hk2] at hy
          exact hs.apart j k x y hjk hx hy
        · have hk3 : k = es.length := by
            have := (List.getElem?_eq_some_iff.1 hy).1
            simp at this; omega
          subst hk3
          simp at hy
          subst hy
          cases hb : x.v.ownBlock with
          | none => exact .inl rfl
          | some g => exact .inr (by simp [Value.ownBlock])
      · have hj2 : j = es.length := by
          have := (List.getElem?_eq_some_iff.1 hx).1
          simp at this; omega
        subst hj2
        simp at hx
        subst hx
        exact .inl rfl
    · intro m hmm
      rcases List.mem_append.1 hmm with hx | hx
      · exact hs.lens m hx
      · simp at hx; subst hx; simp
    · unfold appS
      rw [if_neg hno, List.map_append]
      have e1 : ms.map (fun m => if m.1 = h then (m.1, m.2 ++ ys) else m) = ms := by
        have : ∀ m ∈ ms, (if m.1 = h then (m.1, m.2 ++ ys) else m) = m := fun m hm2 => if_neg (fun e => hno (List.mem_map.2 ⟨m, hm2, e⟩))
        rw [List.map_congr_left this]; simp
      rw [e1]; simp
/-- the last one: the list stored -/
theorem StE.store {w1 w2 : World} {b B i : Nat} {es1 : List Ent} {ms1 : List (Hs × List Hs)} {h : Hs} {e : Ent} {xs ys : List Hs} {v' : Value} (hs : StE w1 b B es1 ms1) (hee : es1[i]? = some e) (hmm : ms1[i]? = some (h, xs)) (hke : e.k = h) (hys : ∀ y ∈ ys, y.length = 32)
    (ho : w2.ownsRow B 34 32 v' (xs.length + ys.length) (UU (xs ++ ys))) (hg : w1.grownBy w2 e.v.ownBlock) (hf : v'.ownBlock = e.v.ownBlock ∨ v'.ownBlock = some w1.heap.size) :
    ∃ w3, (Instr.entryStore 48 (.map (some b)) (.int .i64 (e.b : Int)) v').run Try.prog w2 = .ok () w3 ∧ StM w3 b B (ms1.map (fun m => if m.1 = h then (m.1, m.2 ++ ys) else m)) ∧ w2.grownBy w3 (some b) ∧ w3.heap.size = w2.heap.size := by
  have hme := List.mem_of_getElem? hee
  have hm2 : HM w2 b es1 := hs.hm.kept hg (fun e1 => ownBlock_ne_map hs.hm (hs.rows i e _ hee hmm) e1.symm)
  obtain ⟨w3, hrun, hm3, hg3, hsz⟩ := hm2.estore (t := 48) hme v'
  have hkeys : ∀ (j : Nat) (x : Ent) (m : Hs × List Hs), es1[j]? = some x → ms1[j]? = some m → x.k = m.1 := by
    intro j x m hx hm
    have := congrArg (·[j]?) hs.keys
    simp only [List.getElem?_map, hx, hm, Option.map_some] at this
    exact Option.some.inj this
  have hnd := hs.nodup
  have hidx : ∀ (j : Nat) (m : Hs × List Hs), ms1[j]? = some m → m.1 = h → j = i := by
    intro j m hm hmh
    refine Classical.byContradiction fun hc => ?_
    have hj := (List.getElem?_eq_some_iff.1 hm)
    have hi := (List.getElem?_eq_some_iff.1 hmm)
    have hp := List.pairwise_iff_getElem.1 (List.nodup_iff_pairwise_ne.1 hnd)
    rcases Nat.lt_or_gt_of_ne hc with hlt | hlt
    · exact hp j i (by simpa using hj.1) (by simpa using hi.1) hlt (by simp [hj.2, hi.2, hmh])
    · exact hp i j (by simpa using hi.1) (by simpa using hj.1) hlt (by simp [hj.2, hi.2, hmh])
  refine ⟨w3, hrun, ⟨_, hm3, ?_, ?_, ?_, ?_⟩, hg3, hsz⟩
  · rw [map_keys, hs.keys, List.map_map]
    apply List.map_congr_left
    intro m _
    simp only [Function.comp]
    split <;> rfl
  · intro j x m hx hm
    simp only [List.getElem?_map] at hx hm
    obtain ⟨x0, hx0, rfl⟩ := Option.map_eq_some_iff.1 hx
    obtain ⟨m0, hm0, rfl⟩ := Option.map_eq_some_iff.1 hm
    have hk0 := hkeys j x0 m0 hx0 hm0
    by_cases hc : m0.1 = h
    · have hji := hidx j m0 hm0 hc
      subst hji
      rw [hmm] at hm0
      obtain rfl := Option.some.inj hm0
      rw [hee] at hx0
      obtain rfl := Option.some.inj hx0
      simp only [if_true]
      have := ho.kept hg3 (.inr (ownBlock_ne_map hm2 ho))
      simpa using this
    · have hne : ¬ x0.k = e.k := by rw [hk0, hke]; exact hc
      simp only [if_neg hc, if_neg hne]
      have hji : j ≠ i := by rintro rfl; rw [hmm] at hm0; obtain rfl := Option.some.inj hm0; exact hc rfl
      have h1 := (hs.rows j x0 m0 hx0 hm0).kept hg (hs.apart j i x0 e hji hx0 hee)
      exact h1.kept hg3 (.inr (ownBlock_ne_map hm2 h1))
  · have new : ∀ (j : Nat) (x0 : Ent), j ≠ i → es1[j]? = some x0 → x0.v.ownBlock = none ∨ x0.v.ownBlock ≠ v'.ownBlock := by
      intro j x0 hji hx0
      obtain ⟨m0, hm0, _⟩ := hs.partner hx0
      rcases hf with hf | hf
      · rw [hf]; exact hs.apart j i x0 e hji hx0 hee
      · rw [hf]
        right
        intro hc
        have := (hs.rows j x0 _ hx0 hm0).lt _ hc
        omega
    intro j k x y hjk hx hy
    simp only [List.getElem?_map] at hx hy
    obtain ⟨x0, hx0, rfl⟩ := Option.map_eq_some_iff.1 hx
    obtain ⟨y0, hy0, rfl⟩ := Option.map_eq_some_iff.1 hy
    obtain ⟨mj, hmj, hkj⟩ := hs.partner hx0
    obtain ⟨mk, hmk, hkk⟩ := hs.partner hy0
    by_cases hcx : x0.k = e.k
    · have hji : j = i := hidx j _ hmj (by rw [hkj, hcx, hke])
      subst hji
      have hcy : ¬ y0.k = e.k := by
        intro hc
        exact hjk (hidx k _ hmk (by rw [hkk, hc, hke])).symm
      simp only [if_pos hcx, if_neg hcy]
      rcases new k y0 (fun e1 => hjk e1.symm) hy0 with h1 | h1
      · rw [h1]
        cases hv : v'.ownBlock with
        | none => exact .inl rfl
        | some g => exact .inr (by simp)
      · exact .inr (fun e1 => h1 e1.symm)
    · simp only [if_neg hcx]
      by_cases hcy : y0.k = e.k
      · have hki : k = i := hidx k _ hmk (by rw [hkk, hcy, hke])
        subst hki
        simp only [if_pos hcy]
        exact new j x0 hjk hx0
      · simp only [if_neg hcy]
        exact hs.apart j k x0 y0 hjk hx0 hy0
  · intro m hm
    obtain ⟨m0, hm0, rfl⟩ := List.mem_map.1 hm
    split
    · rename_i hc
      intro y hy
      obtain ⟨j, hj, hjm⟩ := List.mem_iff_getElem.1 hm0
      rcases List.mem_append.1 hy with h1 | h1
      · exact hs.lens m0 hm0 y h1
      · exact hys y h1
    · exact hs.lens m0 hm0
#print axioms StE.store
end Go.Proofs.Ytijkpkcopjkhkaa.Oct
