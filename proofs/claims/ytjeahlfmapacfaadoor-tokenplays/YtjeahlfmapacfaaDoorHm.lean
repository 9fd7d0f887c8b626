/-
  Layer 15 (people): maps whose keys are strings.
-/
import Derived.Test.YtjeahlfmapacfaaDoorRows
import Derived.Test.YtjeahlfmapacfaaDoorBlk
import Derived.StringKeys
import Derived.ChangeKeysEq
import Derived.Maps.RangeRun
import Derived.Maps.Keyed
import Derived.MapKept
import Derived.WalkKit
namespace Go.Proofs.YtjeahlfmapacfaaDoor.Oct
open Go.RowKit Go.WideMaps Go.ChangeMaps Go.MapKept

/-- a text: its bytes -/
abbrev Hs := List UInt8
def hv (h : Hs) : Value := .string ⟨h.toArray⟩
theorem hv_inj {a b : Hs} (h : hv a = hv b) : a = b := by simpa [hv] using h
theorem law9 : KeyLaw Tryd.prog 9 := string_law Tryd.underlying9
theorem has_key (h : Hs) (hl : h.length ≤ maxLen) : ∃ l, keyOf Tryd.prog 9 (hv h) = some l := by
  refine ⟨.string h, ?_⟩
  have e : (⟨h.toArray⟩ : ByteArray).size ≤ maxLen := by show h.toArray.size ≤ maxLen; rw [List.size_toArray]; exact hl
  simp [keyOf, hv, Tryd.underlying9, mapKey, e]

/-- an entry -/
structure Ent where
  k : Hs
  v : Value
  b : Nat
def Ent.me (e : Ent) : MapEntry := { key := hv e.k, val := e.v, born := e.b }
/-- at block b lies a map with just these entries -/
def HM (w : World) (b : Nat) (es : List Ent) : Prop :=
  ∃ clock, w.heap[b]? = some (.map (es.map Ent.me).toArray clock) ∧ (∀ e ∈ es, e.b < clock) ∧ (es.map (·.b)).Nodup ∧ (es.map (·.k)).Nodup ∧ ∀ e ∈ es, e.k.length ≤ maxLen
def hlook (h : Hs) (es : List Ent) : Option Ent := es.find? (fun e => e.k == h)

section
variable {w w' : World} {b : Nat} {es : List Ent} {h : Hs}
theorem HM.lt (hm : HM w b es) : b < w.heap.size := by
  obtain ⟨clock, h1, _⟩ := hm
  exact (Array.getElem?_eq_some_iff.1 h1).1
theorem HM.same (hm : HM w b es) (hs : w'.heap[b]? = w.heap[b]?) : HM w' b es := by
  obtain ⟨clock, h1, h2⟩ := hm
  exact ⟨clock, hs.trans h1, h2⟩
theorem HM.kept {row : Option Nat} (hm : HM w b es) (hg : w.grownBy w' row) (hne : some b ≠ row) : HM w' b es := hm.same (hg.block b hm.lt hne)
theorem HM.below {B : Nat} (hm : HM w b es) (hb : Below B w w') (hB : b < B) : HM w' b es := hm.same (hb.block b hB)
theorem HM.alloc (hm : HM w b es) (o : Obj) : HM (w.alloc o) b es := hm.same (Below.heap_alloc w o b hm.lt)
theorem HM.made (w : World) : HM (w.alloc (.map #[] 0)) w.heap.size [] := ⟨0, by simpa using heap_alloc_new w (.map #[] 0), by simp, by simp, by simp, by simp⟩

theorem hlook_none (hn : hlook h es = none) : ∀ e ∈ es, e.k ≠ h := by
  intro e he hk
  have := List.find?_eq_none.1 hn e he
  simp [hk] at this
theorem hlook_some {e : Ent} (hs : hlook h es = some e) : e ∈ es ∧ e.k = h := by
  refine ⟨List.mem_of_find?_eq_some hs, ?_⟩
  have := List.find?_some hs
  simpa using this
theorem hlook_mem {e : Ent} (hnd : (es.map (·.k)).Nodup) (he : e ∈ es) : hlook e.k es = some e := by
  cases hl : hlook e.k es with
  | none => exact absurd rfl (hlook_none hl e he)
  | some x =>
    obtain ⟨h1, h2⟩ := hlook_some hl
    congr 1
    by_cases hxe : x = e
    · exact hxe
    · exfalso
      obtain ⟨i, hi, hxi⟩ := List.mem_iff_getElem.1 h1
      obtain ⟨j, hj, hej⟩ := List.mem_iff_getElem.1 he
      have hij : i ≠ j := by rintro rfl; exact hxe (hxi.symm.trans hej)
      have := (List.nodup_iff_pairwise_ne.1 hnd)
      have hp := List.pairwise_iff_getElem.1 this
      rcases Nat.lt_or_gt_of_ne hij with hlt | hlt
      · exact hp i j (by simpa using hi) (by simpa using hj) hlt (by simp [hxi, hej, h2])
      · exact hp j i (by simpa using hj) (by simpa using hi) hlt (by simp [hxi, hej, h2])
/-- the search for a key -/
theorem run_find (W : World) (hl : h.length ≤ maxLen) (hk : ∀ e ∈ es, e.k.length ≤ maxLen) (hnd : (es.map (·.k)).Nodup) :
    (hlook h es = none ∧ (Instr.findKey 9 (hv h) (es.map Ent.me)).run Tryd.prog W = .ok none W) ∨
    ∃ j e, hlook h es = some e ∧ es[j]? = some e ∧ (Instr.findKey 9 (hv h) (es.map Ent.me)).run Tryd.prog W = .ok (some (j, e.v)) W := by
  obtain ⟨l, hkey⟩ := has_key h hl
  rcases law9.find W hkey (es.map Ent.me) (by
    intro x hx
    obtain ⟨e, he, rfl⟩ := List.mem_map.1 hx
    exact has_key e.k (hk e he)) with ⟨h1, h2⟩ | ⟨j, x, h1, h2, h3⟩
  · refine .inl ⟨?_, h1⟩
    refine List.find?_eq_none.2 fun e he => ?_
    have := h2 e.me (List.mem_map.2 ⟨e, he, rfl⟩)
    intro hc
    have hc' : e.k = h := by simpa using hc
    exact this (congrArg hv hc')
  · rw [List.getElem?_map] at h2
    obtain ⟨e, he, rfl⟩ := Option.map_eq_some_iff.1 h2
    have hke : e.k = h := hv_inj h3
    refine .inr ⟨j, e, ?_, he, h1⟩
    rw [← hke]
    exact hlook_mem hnd (List.mem_of_getElem? he)

/-- what a lookup answers -/
def lkv (c : Bool) (o : Option Ent) (z : Value) : Value := if c then .tuple #[(o.map (·.v)).getD z, .bool o.isSome] else (o.map (·.v)).getD z
theorem HM.look {t E : TypeId} (hm : HM w b es) (ht : Tryd.prog.underlying t = some (.map 9 E)) (hl : h.length ≤ maxLen) (c : Bool) {z : Value} (hz : (zeroValue E).run Tryd.prog w = .ok z w) :
    (Instr.lookup t (.map (some b)) (hv h) c).run Tryd.prog w = .ok (lkv c (hlook h es) z) w := by
  obtain ⟨clock, hb, h2, h3, h4, h5⟩ := hm
  obtain ⟨l, hkey⟩ := has_key h hl
  rcases run_find w hl h5 h4 with ⟨h6, h7⟩ | ⟨j, e, h6, h7, h8⟩
  · simp [Instr.lookup, run_underlying ht, MapKept.run_getObj_map hb, law9.check w _ hkey, h7, h6, hz, Result.andThen, lkv]
  · simp [Instr.lookup, run_underlying ht, MapKept.run_getObj_map hb, law9.check w _ hkey, h8, h6, Result.andThen, lkv]
theorem look_nil {t E : TypeId} (ht : Tryd.prog.underlying t = some (.map 9 E)) (hl : h.length ≤ maxLen) (c : Bool) {z : Value} (hz : (zeroValue E).run Tryd.prog w = .ok z w) :
    (Instr.lookup t (.map none) (hv h) c).run Tryd.prog w = .ok (lkv c none z) w := by
  obtain ⟨l, hkey⟩ := has_key h hl
  rcases run_find (es := []) w hl (by simp) (by simp) with ⟨h6, h7⟩ | ⟨j, e, h6, h7, h8⟩
  · have h7' : (Instr.findKey 9 (hv h) []).run Tryd.prog w = .ok none w := h7
    simp [Instr.lookup, run_underlying ht, law9.check w _ hkey, h7', hz, Result.andThen, lkv]
  · simp at h7

theorem grown_setBlock {o : Obj} (hb : w.heap[b]? = some o) (o' : Obj) : w.grownBy (setBlock w b o') (some b) :=
  ⟨rfl, rfl, rfl, by simp [setBlock], fun i _ hi => (MapKept.heap_set hb).2 i (fun e => hi (by rw [e]))⟩
/-- a value put at a key -/
def hputE (h : Hs) (v : Value) (es : List Ent) (nb : Nat) : List Ent := if (hlook h es).isSome then es.map (fun e => if e.k = h then { e with v := v } else e) else es ++ [⟨h, v, nb⟩]
theorem modify_me {j : Nat} {e : Ent} (v : Value) (hnd : (es.map (·.k)).Nodup) (he : es[j]? = some e) : ((es.map Ent.me).toArray.modify j fun x => { x with key := hv e.k, val := v }) = ((es.map (fun x => if x.k = e.k then { x with v := v } else x)).map Ent.me).toArray := by
  have hj : j < es.length := (List.getElem?_eq_some_iff.1 he).1
  have hej : es[j] = e := (List.getElem?_eq_some_iff.1 he).2
  apply Array.ext
  · simp
  · intro i h1 h2
    have hi : i < es.length := by simpa using h1
    rw [Array.getElem_modify]
    simp only [List.getElem_toArray, List.getElem_map]
    by_cases hij : j = i
    · subst hij
      simp [hej, Ent.me]
    · have hne : ¬ es[i].k = e.k := by
        intro hc
        have hp := List.pairwise_iff_getElem.1 (List.nodup_iff_pairwise_ne.1 hnd)
        rcases Nat.lt_or_gt_of_ne hij with hlt | hlt
        · exact hp j i (by simpa using hj) (by simpa using hi) hlt (by simp [hej, hc])
        · exact hp i j (by simpa using hi) (by simpa using hj) hlt (by simp [hej, hc])
      simp [hij, hne]
theorem map_keys (es : List Ent) (h : Hs) (v : Value) : (es.map (fun e => if e.k = h then { e with v := v } else e)).map (·.k) = es.map (·.k) := by
  rw [List.map_map]; apply List.map_congr_left; intro e _; simp only [Function.comp]; split <;> rfl
theorem map_borns (es : List Ent) (h : Hs) (v : Value) : (es.map (fun e => if e.k = h then { e with v := v } else e)).map (·.b) = es.map (·.b) := by
  rw [List.map_map]; apply List.map_congr_left; intro e _; simp only [Function.comp]; split <;> rfl
theorem HM.put {t E : TypeId} (hm : HM w b es) (ht : Tryd.prog.underlying t = some (.map 9 E)) (hl : h.length ≤ maxLen) (v : Value) :
    ∃ w' nb, (Instr.mapUpdate t (.map (some b)) (hv h) v).run Tryd.prog w = .ok () w' ∧ HM w' b (hputE h v es nb) ∧ w.grownBy w' (some b) ∧ w'.heap.size = w.heap.size := by
  obtain ⟨clock, hb, h2, h3, h4, h5⟩ := hm
  obtain ⟨l, hkey⟩ := has_key h hl
  rcases run_find w hl h5 h4 with ⟨h6, h7⟩ | ⟨j, e, h6, h7, h8⟩
  · refine ⟨setBlock w b (.map ((es.map Ent.me).toArray.push ⟨hv h, v, clock⟩) (clock + 1)), clock, ?_, ⟨clock + 1, ?_, ?_, ?_, ?_, ?_⟩, grown_setBlock hb _, by simp [setBlock]⟩
    · simp [Instr.mapUpdate, run_underlying ht, MapKept.run_getObj_map hb, law9.check w false hkey, h7, MapKept.run_setObj_map _ hb, Result.andThen, setBlock]
    · have e := (MapKept.heap_set (o' := .map ((es.map Ent.me).toArray.push ⟨hv h, v, clock⟩) (clock + 1)) hb).1
      unfold hputE
      simp only [h6, Option.isSome_none, Bool.false_eq_true, if_false, List.map_append, List.map_cons, List.map_nil]
      rw [show (setBlock w b (.map ((es.map Ent.me).toArray.push ⟨hv h, v, clock⟩) (clock + 1))).heap[b]? = _ from e]
      refine congrArg (fun A => some (Obj.map A (clock + 1))) (Array.toList_inj.1 ?_)
      simp [Ent.me]
    all_goals unfold hputE; simp only [h6, Option.isSome_none, Bool.false_eq_true, if_false]
    · intro e he
      rcases List.mem_append.1 he with he | he
      · have := h2 e he; omega
      · simp at he; subst he; show clock < clock + 1; omega
    · rw [List.map_append, List.nodup_append]
      refine ⟨h3, by simp, ?_⟩
      intro x hx y hy
      obtain ⟨e, he, rfl⟩ := List.mem_map.1 hx
      simp at hy; subst hy
      have := h2 e he; omega
    · rw [List.map_append, List.nodup_append]
      refine ⟨h4, by simp, ?_⟩
      intro x hx y hy
      obtain ⟨e, he, rfl⟩ := List.mem_map.1 hx
      simp at hy; subst hy
      exact hlook_none h6 e he
    · intro e he
      rcases List.mem_append.1 he with he | he
      · exact h5 e he
      · simp at he; subst he; exact hl
  · have hke := (hlook_some h6).2
    subst hke
    refine ⟨setBlock w b (.map ((es.map Ent.me).toArray.modify j fun x => { x with key := hv e.k, val := v }) clock), 0, ?_, ⟨clock, ?_, ?_, ?_, ?_, ?_⟩, grown_setBlock hb _, by simp [setBlock]⟩
    · have hg : (es.map Ent.me)[j]? = some e.me := by rw [List.getElem?_map, h7]; rfl
      simp [Instr.mapUpdate, run_underlying ht, MapKept.run_getObj_map hb, law9.check w false hkey, h8, h7, Ent.me, law9.stays w hkey, MapKept.run_setObj_map _ hb, Result.andThen, setBlock]
    · have e1 := (MapKept.heap_set (o' := .map ((es.map Ent.me).toArray.modify j fun x => { x with key := hv e.k, val := v }) clock) hb).1
      rw [show (setBlock w b (.map ((es.map Ent.me).toArray.modify j fun x => { x with key := hv e.k, val := v }) clock)).heap[b]? = _ from e1, modify_me v h4 h7]
      unfold hputE
      simp only [h6, Option.isSome_some, if_true]
    all_goals unfold hputE; simp only [h6, Option.isSome_some, if_true]
    · intro x hx
      obtain ⟨y, hy, rfl⟩ := List.mem_map.1 hx
      have := h2 y hy
      split <;> exact this
    · rw [map_borns]; exact h3
    · rw [map_keys]; exact h4
    · intro x hx
      obtain ⟨y, hy, rfl⟩ := List.mem_map.1 hx
      have := h5 y hy
      split <;> exact this
theorem HM.len {t E : TypeId} (hm : HM w b es) (ht : Tryd.prog.underlying t = some (.map 9 E)) (ty : TypeId) : (Builtin.len_ #[t] ty #[.map (some b)]).run Tryd.prog w = .ok (.int .i64 es.length) w := by
  obtain ⟨clock, hb, _⟩ := hm
  simp [Builtin.len_, run_underlying ht, MapKept.run_getObj_map hb, Result.andThen, goInt]
end
#print axioms HM.put
#print axioms HM.look
end Go.Proofs.YtjeahlfmapacfaaDoor.Oct
