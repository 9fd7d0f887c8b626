/-
  Layer 11 (lines): maps, whatever the type of their keys.
-/
import Derived.Test.YtjcihaohpbmogaaRows
import Derived.Test.YtjcihaohpbmogaaQoAA
import Derived.WideKeyArr
import Derived.ChangeKeysEq
import Derived.Maps.RangeRun
import Derived.MapKept
import Derived.WalkKit
/- Layer 11 (lines): maps, whatever the type of their keys. -/
namespace Go.Proofs.Ytjcihaohpbmogaa.Oct
open Go.RowKit Go.WideMaps Go.ChangeMaps Go.MapKept
set_option linter.unusedSectionVars false
set_option maxRecDepth 100000

/-- a type of keys -/
class MK (K : Type) where
  kt : TypeId
  kv : K → Value
  ok : K → Prop
  law : KeyLaw Try.prog kt
  has : ∀ k, ok k → ∃ l, keyOf Try.prog kt (kv k) = some l
  inj : ∀ {a b : K}, kv a = kv b → a = b
variable {K : Type}
/-- an entry -/
structure Ent (K : Type) where
  k : K
  v : Value
  b : Nat
def Ent.me [MK K] (e : Ent K) : MapEntry := { key := MK.kv e.k, val := e.v, born := e.b }
/-- at block b lies a map with just these entries -/
def HM [MK K] (w : World) (b : Nat) (es : List (Ent K)) : Prop :=
  ∃ clock, w.heap[b]? = some (.map (es.map Ent.me).toArray clock) ∧ (∀ e ∈ es, e.b < clock) ∧ (es.map (·.b)).Nodup ∧ (es.map (·.k)).Nodup ∧ ∀ e ∈ es, MK.ok e.k
def hlook [DecidableEq K] (h : K) (es : List (Ent K)) : Option (Ent K) := es.find? (fun e => e.k == h)

section
variable [MK K] [DecidableEq K] {w w' : World} {b : Nat} {es : List (Ent K)} {h : K}
theorem HM.lt (hm : HM w b es) : b < w.heap.size := by
  obtain ⟨clock, h1, _⟩ := hm
  exact (Array.getElem?_eq_some_iff.1 h1).1
theorem HM.same (hm : HM w b es) (hs : w'.heap[b]? = w.heap[b]?) : HM w' b es := by
  obtain ⟨clock, h1, h2⟩ := hm
  exact ⟨clock, hs.trans h1, h2⟩
theorem HM.kept {row : Option Nat} (hm : HM w b es) (hg : w.grownBy w' row) (hne : some b ≠ row) : HM w' b es := hm.same (hg.block b hm.lt hne)
theorem HM.below {B : Nat} (hm : HM w b es) (hb : Below B w w') (hB : b < B) : HM w' b es := hm.same (hb.block b hB)
theorem HM.alloc (hm : HM w b es) (o : Obj) : HM (w.alloc o) b es := hm.same (Below.heap_alloc w o b hm.lt)
theorem HM.made (w : World) : HM (K := K) (w.alloc (.map #[] 0)) w.heap.size [] := ⟨0, by simpa using heap_alloc_new w (.map #[] 0), by simp, by simp, by simp, by simp⟩

theorem hlook_none (hn : hlook h es = none) : ∀ e ∈ es, e.k ≠ h := by
  intro e he hk
  have := List.find?_eq_none.1 hn e he
  simp [hk] at this
theorem hlook_some {e : Ent K} (hs : hlook h es = some e) : e ∈ es ∧ e.k = h := by
  refine ⟨List.mem_of_find?_eq_some hs, ?_⟩
  have := List.find?_some hs
  simpa using this
theorem hlook_mem {e : Ent K} (hnd : (es.map (·.k)).Nodup) (he : e ∈ es) : hlook e.k es = some e := by
  cases hl : hlook e.k es with
  | none => exact absurd rfl (hlook_none hl e he)
  | some x =>
    obtain ⟨h1, h2⟩ := hlook_some hl
    congr 1
    by_cases hxe : x = e
    · exact hxe
    · exfalso
      obtain ⟨i, hi, hxi⟩ := List.mem_iff_getElem.1 h1
      obtain ⟨j, hj, hej⟩ := List.mem_iff_getElem.1 he
      have hij : i ≠ j := by rintro rfl; exact hxe (hxi.symm.trans hej)
      have := (List.nodup_iff_pairwise_ne.1 hnd)
      have hp := List.pairwise_iff_getElem.1 this
      rcases Nat.lt_or_gt_of_ne hij with hlt | hlt
      · exact hp i j (by simpa using hi) (by simpa using hj) hlt (by simp [hxi, hej, h2])
      · exact hp j i (by simpa using hj) (by simpa using hi) hlt (by simp [hxi, hej, h2])
/-- the search for a key -/
theorem run_find (W : World) (hl : MK.ok h) (hk : ∀ e ∈ es, MK.ok e.k) (hnd : (es.map (·.k)).Nodup) :
    (hlook h es = none ∧ (Instr.findKey (MK.kt K) (MK.kv h) (es.map Ent.me)).run Try.prog W = .ok none W) ∨
    ∃ j e, hlook h es = some e ∧ es[j]? = some e ∧ (Instr.findKey (MK.kt K) (MK.kv h) (es.map Ent.me)).run Try.prog W = .ok (some (j, e.v)) W := by
  obtain ⟨l, hkey⟩ := MK.has h hl
  rcases (MK.law (K := K)).find W hkey (es.map Ent.me) (by
    intro x hx
    obtain ⟨e, he, rfl⟩ := List.mem_map.1 hx
    exact MK.has e.k (hk e he)) with ⟨h1, h2⟩ | ⟨j, x, h1, h2, h3⟩
  · refine .inl ⟨?_, h1⟩
    refine List.find?_eq_none.2 fun e he => ?_
    have := h2 e.me (List.mem_map.2 ⟨e, he, rfl⟩)
    intro hc
    have hc' : e.k = h := by simpa using hc
    exact this (congrArg MK.kv hc')
  · rw [List.getElem?_map] at h2
    obtain ⟨e, he, rfl⟩ := Option.map_eq_some_iff.1 h2
    have hke : e.k = h := MK.inj h3
    refine .inr ⟨j, e, ?_, he, h1⟩
    rw [← hke]
    exact hlook_mem hnd (List.mem_of_getElem? he)

/-- what a lookup answers -/
def lkv (c : Bool) (o : Option (Ent K)) (z : Value) : Value := if c then .tuple #[(o.map (·.v)).getD z, .bool o.isSome] else (o.map (·.v)).getD z
theorem HM.look {t E : TypeId} (hm : HM w b es) (ht : Try.prog.underlying t = some (.map (MK.kt K) E)) (hl : MK.ok h) (c : Bool) {z : Value} (hz : (zeroValue E).run Try.prog w = .ok z w) :
    (Instr.lookup t (.map (some b)) (MK.kv h) c).run Try.prog w = .ok (lkv c (hlook h es) z) w := by
  obtain ⟨clock, hb, h2, h3, h4, h5⟩ := hm
  obtain ⟨l, hkey⟩ := MK.has h hl
  rcases run_find w hl h5 h4 with ⟨h6, h7⟩ | ⟨j, e, h6, h7, h8⟩
  · simp [Instr.lookup, run_underlying ht, MapKept.run_getObj_map hb, (MK.law (K := K)).check w _ hkey, h7, h6, hz, Result.andThen, lkv]
  · simp [Instr.lookup, run_underlying ht, MapKept.run_getObj_map hb, (MK.law (K := K)).check w _ hkey, h8, h6, Result.andThen, lkv]
theorem look_nil {t E : TypeId} (ht : Try.prog.underlying t = some (.map (MK.kt K) E)) (hl : MK.ok h) (c : Bool) {z : Value} (hz : (zeroValue E).run Try.prog w = .ok z w) :
    (Instr.lookup t (.map none) (MK.kv h) c).run Try.prog w = .ok (lkv (K := K) c none z) w := by
  obtain ⟨l, hkey⟩ := MK.has h hl
  rcases run_find (es := ([] : List (Ent K))) w hl (by simp) (by simp) with ⟨h6, h7⟩ | ⟨j, e, h6, h7, h8⟩
  · have h7' : (Instr.findKey (MK.kt K) (MK.kv h) []).run Try.prog w = .ok none w := h7
    simp [Instr.lookup, run_underlying ht, (MK.law (K := K)).check w _ hkey, h7', hz, Result.andThen, lkv]
  · simp at h7

theorem grown_setBlock {o : Obj} (hb : w.heap[b]? = some o) (o' : Obj) : w.grownBy (setBlock w b o') (some b) :=
  ⟨rfl, rfl, rfl, by simp [setBlock], fun i _ hi => (MapKept.heap_set hb).2 i (fun e => hi (by rw [e]))⟩
/-- a value put at a key -/
def hputE [DecidableEq K] (h : K) (v : Value) (es : List (Ent K)) (nb : Nat) : List (Ent K) := if (hlook h es).isSome then es.map (fun e => if e.k = h then { e with v := v } else e) else es ++ [⟨h, v, nb⟩]
theorem modify_me {j : Nat} {e : Ent K} (v : Value) (hnd : (es.map (·.k)).Nodup) (he : es[j]? = some e) : ((es.map Ent.me).toArray.modify j fun x => { x with key := MK.kv e.k, val := v }) = ((es.map (fun x => if x.k = e.k then { x with v := v } else x)).map Ent.me).toArray := by
  have hj : j < es.length := (List.getElem?_eq_some_iff.1 he).1
  have hej : es[j] = e := (List.getElem?_eq_some_iff.1 he).2
  apply Array.ext
  · simp
  · intro i h1 h2
    have hi : i < es.length := by simpa using h1
    rw [Array.getElem_modify]
    simp only [List.getElem_toArray, List.getElem_map]
    by_cases hij : j = i
    · subst hij
      simp [hej, Ent.me]
    · have hne : ¬ es[i].k = e.k := by
        intro hc
        have hp := List.pairwise_iff_getElem.1 (List.nodup_iff_pairwise_ne.1 hnd)
        rcases Nat.lt_or_gt_of_ne hij with hlt | hlt
        · exact hp j i (by simpa using hj) (by simpa using hi) hlt (by simp [hej, hc])
        · exact hp i j (by simpa using hi) (by simpa using hj) hlt (by simp [hej, hc])
      simp [hij, hne]
theorem map_keys (es : List (Ent K)) (h : K) (v : Value) : (es.map (fun e => if e.k = h then { e with v := v } else e)).map (·.k) = es.map (·.k) := by
  rw [List.map_map]; apply List.map_congr_left; intro e _; simp only [Function.comp]; split <;> rfl
theorem map_borns (es : List (Ent K)) (h : K) (v : Value) : (es.map (fun e => if e.k = h then { e with v := v } else e)).map (·.b) = es.map (·.b) := by
  rw [List.map_map]; apply List.map_congr_left; intro e _; simp only [Function.comp]; split <;> rfl
theorem HM.put {t E : TypeId} (hm : HM w b es) (ht : Try.prog.underlying t = some (.map (MK.kt K) E)) (hl : MK.ok h) (v : Value) :
    ∃ w' nb, (Instr.mapUpdate t (.map (some b)) (MK.kv h) v).run Try.prog w = .ok () w' ∧ HM w' b (hputE h v es nb) ∧ w.grownBy w' (some b) ∧ w'.heap.size = w.heap.size := by
  obtain ⟨clock, hb, h2, h3, h4, h5⟩ := hm
  obtain ⟨l, hkey⟩ := MK.has h hl
  rcases run_find w hl h5 h4 with ⟨h6, h7⟩ | ⟨j, e, h6, h7, h8⟩
  · refine ⟨setBlock w b (.map ((es.map Ent.me).toArray.push ⟨MK.kv h, v, clock⟩) (clock + 1)), clock, ?_, ⟨clock + 1, ?_, ?_, ?_, ?_, ?_⟩, grown_setBlock hb _, by simp [setBlock]⟩
    · simp [Instr.mapUpdate, run_underlying ht, MapKept.run_getObj_map hb, (MK.law (K := K)).check w false hkey, h7, MapKept.run_setObj_map _ hb, Result.andThen, setBlock]
    · have e := (MapKept.heap_set (o' := .map ((es.map Ent.me).toArray.push ⟨MK.kv h, v, clock⟩) (clock + 1)) hb).1
      unfold hputE
      simp only [h6, Option.isSome_none, Bool.false_eq_true, if_false, List.map_append, List.map_cons, List.map_nil]
      rw [show (setBlock w b (.map ((es.map Ent.me).toArray.push ⟨MK.kv h, v, clock⟩) (clock + 1))).heap[b]? = _ from e]
      congr 2
      apply Array.toList_inj.1
      simp [Ent.me]
    all_goals unfold hputE; simp only [h6, Option.isSome_none, Bool.false_eq_true, if_false]
    · intro e he
      rcases List.mem_append.1 he with he | he
      · have := h2 e he; omega
      · simp at he; subst he; show clock < clock + 1; omega
    · rw [List.map_append, List.nodup_append]
      refine ⟨h3, by simp, ?_⟩
      intro x hx y hy
      obtain ⟨e, he, rfl⟩ := List.mem_map.1 hx
      simp at hy; subst hy
      have := h2 e he; omega
    · rw [List.map_append, List.nodup_append]
      refine ⟨h4, by simp, ?_⟩
      intro x hx y hy
      obtain ⟨e, he, rfl⟩ := List.mem_map.1 hx
      simp at hy; subst hy
      exact hlook_none h6 e he
    · intro e he
      rcases List.mem_append.1 he with he | he
      · exact h5 e he
      · simp at he; subst he; exact hl
  · have hke := (hlook_some h6).2
    subst hke
    refine ⟨setBlock w b (.map ((es.map Ent.me).toArray.modify j fun x => { x with key := MK.kv e.k, val := v }) clock), 0, ?_, ⟨clock, ?_, ?_, ?_, ?_, ?_⟩, grown_setBlock hb _, by simp [setBlock]⟩
    · have hg : (es.map Ent.me)[j]? = some e.me := by rw [List.getElem?_map, h7]; rfl
      simp [Instr.mapUpdate, run_underlying ht, MapKept.run_getObj_map hb, (MK.law (K := K)).check w false hkey, h8, h7, Ent.me, (MK.law (K := K)).stays w hkey, MapKept.run_setObj_map _ hb, Result.andThen, setBlock]
    · have e1 := (MapKept.heap_set (o' := .map ((es.map Ent.me).toArray.modify j fun x => { x with key := MK.kv e.k, val := v }) clock) hb).1
      rw [show (setBlock w b (.map ((es.map Ent.me).toArray.modify j fun x => { x with key := MK.kv e.k, val := v }) clock)).heap[b]? = _ from e1, modify_me v h4 h7]
      unfold hputE
      simp only [h6, Option.isSome_some, if_true]
    all_goals unfold hputE; simp only [h6, Option.isSome_some, if_true]
    · intro x hx
      obtain ⟨y, hy, rfl⟩ := List.mem_map.1 hx
      have := h2 y hy
      split <;> exact this
    · rw [map_borns]; exact h3
    · rw [map_keys]; exact h4
    · intro x hx
      obtain ⟨y, hy, rfl⟩ := List.mem_map.1 hx
      have := h5 y hy
      split <;> exact this
theorem HM.len {t E : TypeId} (hm : HM w b es) (ht : Try.prog.underlying t = some (.map (MK.kt K) E)) (ty : TypeId) : (Builtin.len_ #[t] ty #[.map (some b)]).run Try.prog w = .ok (.int .i64 es.length) w := by
  obtain ⟨clock, hb, _⟩ := hm
  simp [Builtin.len_, run_underlying ht, MapKept.run_getObj_map hb, Result.andThen, goInt]
end
section
variable [MK K] [DecidableEq K] {w w' : World} {b : Nat} {es : List (Ent K)} {h : K}
/-- the place of an entry, made where there is none -/
theorem HM.entry {t E : TypeId} (hm : HM w b es) (ht : Try.prog.underlying t = some (.map (MK.kt K) E)) (hl : MK.ok h) {z : Value} (hz : ∀ W, (zeroValue E).run Try.prog W = .ok z W) :
    ∃ w1 e nb, (Instr.mapEntry t (.map (some b)) (MK.kv h)).run Try.prog w = .ok (.tuple #[e.v, .int .i64 (e.b : Int)]) w1 ∧ HM w1 b (if (hlook h es).isSome then es else es ++ [⟨h, z, nb⟩]) ∧ (e ∈ if (hlook h es).isSome then es else es ++ [⟨h, z, nb⟩]) ∧ e.k = h ∧ (hlook h es = some e ∨ (hlook h es = none ∧ e.v = z)) ∧ w.grownBy w1 (some b) ∧ w1.heap.size = w.heap.size := by
  obtain ⟨clock, hb, h2, h3, h4, h5⟩ := hm
  obtain ⟨l, hkey⟩ := MK.has h hl
  rcases run_find w hl h5 h4 with ⟨h6, h7⟩ | ⟨j, e, h6, h7, h8⟩
  · refine ⟨setBlock w b (.map ((es.map Ent.me).toArray.push ⟨MK.kv h, z, clock⟩) (clock + 1)), ⟨h, z, clock⟩, clock, ?_, ⟨clock + 1, ?_, ?_, ?_, ?_, ?_⟩, ?_, rfl, .inr ⟨h6, rfl⟩, grown_setBlock hb _, by simp [setBlock]⟩
    · simp [Instr.mapEntry, run_underlying ht, MapKept.run_getObj_map hb, (MK.law (K := K)).check w false hkey, h7, hz, MapKept.run_setObj_map _ hb, Result.andThen, setBlock, goInt]
    · have e := (MapKept.heap_set (o' := .map ((es.map Ent.me).toArray.push ⟨MK.kv h, z, clock⟩) (clock + 1)) hb).1
      simp only [h6, Option.isSome_none, Bool.false_eq_true, if_false, List.map_append, List.map_cons, List.map_nil]
      rw [show (setBlock w b (.map ((es.map Ent.me).toArray.push ⟨MK.kv h, z, clock⟩) (clock + 1))).heap[b]? = _ from e]
      congr 2
      apply Array.toList_inj.1
      simp [Ent.me]
    all_goals simp only [h6, Option.isSome_none, Bool.false_eq_true, if_false]
    · intro e he
      rcases List.mem_append.1 he with he | he
      · have := h2 e he; omega
      · simp at he; subst he; show clock < clock + 1; omega
    · rw [List.map_append, List.nodup_append]
      refine ⟨h3, by simp, ?_⟩
      intro x hx y hy
      obtain ⟨e, he, rfl⟩ := List.mem_map.1 hx
      simp at hy; subst hy
      have := h2 e he; omega
    · rw [List.map_append, List.nodup_append]
      refine ⟨h4, by simp, ?_⟩
      intro x hx y hy
      obtain ⟨e, he, rfl⟩ := List.mem_map.1 hx
      simp at hy; subst hy
      exact hlook_none h6 e he
    · intro e he
      rcases List.mem_append.1 he with he | he
      · exact h5 e he
      · simp at he; subst he; exact hl
    · simp
  · have hke := (hlook_some h6).2
    subst hke
    have hmod : ((es.map Ent.me).toArray.modify j fun x => { x with key := MK.kv e.k }) = (es.map Ent.me).toArray := by
      have hj : j < es.length := (List.getElem?_eq_some_iff.1 h7).1
      have hej : es[j] = e := (List.getElem?_eq_some_iff.1 h7).2
      apply Array.ext
      · simp
      · intro i h1 h2
        rw [Array.getElem_modify]
        simp only [List.getElem_toArray, List.getElem_map]
        by_cases hij : j = i
        · subst hij; simp [hej, Ent.me]
        · simp [hij]
    refine ⟨setBlock w b (.map (es.map Ent.me).toArray clock), e, 0, ?_, ⟨clock, ?_, ?_, ?_, ?_, ?_⟩, ?_, rfl, .inl h6, grown_setBlock hb _, by simp [setBlock]⟩
    · simp [Instr.mapEntry, run_underlying ht, MapKept.run_getObj_map hb, (MK.law (K := K)).check w false hkey, h8, h7, Ent.me, (MK.law (K := K)).stays w hkey, MapKept.run_setObj_map _ hb, Result.andThen, setBlock, goInt]
      have h9 : ((es.map Ent.me).modify j fun x => { x with key := MK.kv e.k }) = es.map Ent.me := by simpa using congrArg Array.toList hmod
      rw [h9]
    · have e1 := (MapKept.heap_set (o' := .map (es.map Ent.me).toArray clock) hb).1
      simp only [h6, Option.isSome_some, if_true]
      exact e1
    all_goals simp only [h6, Option.isSome_some, if_true]
    · exact h2
    · exact h3
    · exact h4
    · exact h5
    · exact (hlook_some h6).1
/-- a value stored at that place -/
theorem HM.estore {t : TypeId} {e : Ent K} (hm : HM w b es) (he : e ∈ es) (v : Value) :
    ∃ w', (Instr.entryStore t (.map (some b)) (.int .i64 (e.b : Int)) v).run Try.prog w = .ok () w' ∧ HM w' b (es.map (fun x => if x.k = e.k then { x with v := v } else x)) ∧ w.grownBy w' (some b) ∧ w'.heap.size = w.heap.size := by
  obtain ⟨clock, hb, h2, h3, h4, h5⟩ := hm
  obtain ⟨j, hj, hej⟩ := List.mem_iff_getElem.1 he
  have hfi : (es.map Ent.me).toArray.findIdx? (fun x => (x.born : Int) == (e.b : Int)) = some j := by
    rw [List.findIdx?_toArray, List.findIdx?_eq_some_iff_getElem]
    refine ⟨by simpa using hj, ?_, ?_⟩
    · simp [hej, Ent.me]
    · intro i hi
      have hi' : i < es.length := by omega
      simp only [List.getElem_map, Ent.me]
      have hp := List.pairwise_iff_getElem.1 (List.nodup_iff_pairwise_ne.1 h3) i j (by simpa using hi') (by simpa using hj) hi
      simp [hej] at hp
      simp; omega
  have h7 : es[j]? = some e := by rw [List.getElem?_eq_getElem hj, hej]
  have hmod := modify_me v h4 h7
  have hmod2 : ((es.map Ent.me).toArray.modify j fun x => { x with val := v }) = ((es.map (fun x => if x.k = e.k then { x with v := v } else x)).map Ent.me).toArray := by
    rw [← hmod]
    apply Array.ext
    · simp
    · intro i h1 h2
      rw [Array.getElem_modify, Array.getElem_modify]
      split
      · rename_i hij; subst hij; simp [hej, Ent.me]
      · rfl
  refine ⟨setBlock w b (.map ((es.map Ent.me).toArray.modify j fun x => { x with val := v }) clock), ?_, ⟨clock, ?_, ?_, ?_, ?_, ?_⟩, grown_setBlock hb _, by simp [setBlock]⟩
  · have ha : (asInt (.int .i64 (e.b : Int))).run Try.prog w = .ok (e.b : Int) w := by simp [asInt, asIntOf]
    simp only [Instr.entryStore, MapKept.run_getObj_map hb, Sem.run_bind, Result.andThen, ha, hfi]
    exact MapKept.run_setObj_map _ hb
  · have e1 := (MapKept.heap_set (o' := .map ((es.map Ent.me).toArray.modify j fun x => { x with val := v }) clock) hb).1
    rw [show (setBlock w b (.map ((es.map Ent.me).toArray.modify j fun x => { x with val := v }) clock)).heap[b]? = _ from e1, hmod2]
  · intro x hx
    obtain ⟨y, hy, rfl⟩ := List.mem_map.1 hx
    have := h2 y hy
    split <;> exact this
  · rw [map_borns]; exact h3
  · rw [map_keys]; exact h4
  · intro x hx
    obtain ⟨y, hy, rfl⟩ := List.mem_map.1 hx
    have := h5 y hy
    split <;> exact this

/-- a range under way: those entries are left -/
def HMR [MK K] (w : World) (b r : Nat) (es left : List (Ent K)) : Prop :=
  ∃ clock seen, w.heap[b]? = some (.map (es.map Ent.me).toArray clock) ∧ w.heap[r]? = some (.mapIter (some b) clock seen clock) ∧ left = es.filter (fun e => !seen.contains e.b) ∧ (∀ e ∈ es, e.b < clock) ∧ (es.map (·.b)).Nodup ∧ (es.map (·.k)).Nodup ∧ ∀ e ∈ es, MK.ok e.k
theorem HMR.hm {r : Nat} {left : List (Ent K)} (hr : HMR w b r es left) : HM w b es := by
  obtain ⟨clock, seen, h1, _, _, h2⟩ := hr
  exact ⟨clock, h1, h2⟩
theorem HMR.same {r : Nat} {left : List (Ent K)} (hr : HMR w b r es left) (hb : w'.heap[b]? = w.heap[b]?) (hi : w'.heap[r]? = w.heap[r]?) : HMR w' b r es left := by
  obtain ⟨clock, seen, h1, h2, h3⟩ := hr
  exact ⟨clock, seen, hb.trans h1, hi.trans h2, h3⟩
theorem HMR.lt {r : Nat} {left : List (Ent K)} (hr : HMR w b r es left) : b < w.heap.size ∧ r < w.heap.size ∧ b ≠ r := by
  obtain ⟨clock, seen, h1, h2, h3⟩ := hr
  refine ⟨(Array.getElem?_eq_some_iff.1 h1).1, (Array.getElem?_eq_some_iff.1 h2).1, ?_⟩
  rintro rfl
  rw [h1] at h2
  cases h2
theorem HM.range {t E : TypeId} (hm : HM w b es) (ht : Try.prog.underlying t = some (.map (MK.kt K) E)) :
    ∃ w', (Instr.range t (.map (some b))).run Try.prog w = .ok (.pointer (some ⟨w.heap.size, 0, none⟩)) w' ∧ HMR w' b w.heap.size es es ∧ Below w.heap.size w w' ∧ w'.heap.size = w.heap.size + 1 := by
  have hlt := hm.lt
  obtain ⟨clock, hb, h2, h3, h4, h5⟩ := hm
  refine ⟨_, run_range_map w t (MK.kt K) E b _ clock ht hb, ⟨clock, #[], (Below.heap_alloc w _ b hlt).trans hb, heap_alloc_new w _, by symm; exact List.filter_eq_self.2 (by simp), h2, h3, h4, h5⟩, (Below.refl _ w).alloc (Nat.le_refl _) _, by simp⟩
theorem filter_seen (es : List (Ent K)) (seen : Array Nat) : (leftOf (es.map Ent.me).toArray seen).toList = (es.filter (fun e => !seen.contains e.b)).map Ent.me := by
  unfold leftOf
  rw [Array.toList_filter]
  show (es.map Ent.me).filter _ = _
  rw [List.filter_map]
  rfl
theorem perm_out {e : Ent K} : ∀ (l : List (Ent K)), (l.map (·.b)).Nodup → e ∈ l → l.Perm (e :: l.filter (fun x => x.b != e.b))
  | [], _, h => by cases h
  | x :: l, hn, he => by
    simp only [List.map_cons, List.nodup_cons] at hn
    rcases List.mem_cons.1 he with rfl | he
    · have e1 : (e :: l).filter (fun x => x.b != e.b) = l := by
        rw [List.filter_cons, if_neg (by simp)]
        refine List.filter_eq_self.2 fun y hy => ?_
        have : y.b ≠ e.b := fun hc => hn.1 (List.mem_map.2 ⟨y, hy, hc⟩)
        simpa using this
      rw [e1]
    · have hne : x.b ≠ e.b := fun hc => hn.1 (List.mem_map.2 ⟨e, he, hc.symm⟩)
      rw [List.filter_cons, if_pos (by simpa using hne)]
      exact ((perm_out l hn.2 he).cons x).trans (List.Perm.swap e x _)
/-- the step -/
theorem HMR.next {r : Nat} {left : List (Ent K)} (hr : HMR w b r es left) (ty : TypeId) :
    (left = [] ∧ (Instr.next (.pointer (some ⟨r, 0, none⟩)) false ty).run Try.prog w = .ok (.tuple #[.bool false]) w) ∨
    ∃ e left' w', e ∈ left ∧ left.Perm (e :: left') ∧ (Instr.next (.pointer (some ⟨r, 0, none⟩)) false ty).run Try.prog w = .ok (.tuple #[.bool true, MK.kv e.k, e.v]) w' ∧ HMR w' b r es left' ∧ w.grownBy w' (some r) ∧ w'.heap.size = w.heap.size ∧ (Instr.entry (.pointer (some ⟨r, 0, none⟩))).run Try.prog w' = .ok (.tuple #[MK.kv e.k, e.v]) w' := by
  have hne := hr.lt.2.2
  obtain ⟨clock, seen, hb, hi, hl, h2, h3, h4, h5⟩ := hr
  rcases run_next_at (P := Try.prog) w ty r b clock clock seen _ clock hi hb (by
    intro x hx
    simp only [List.mem_map] at hx
    obtain ⟨e, he, rfl⟩ := hx
    exact h2 e he) (Nat.le_refl _) with ⟨h6, h7⟩ | ⟨x, hx, w1, hw1, hrun⟩
  · refine .inl ⟨?_, h7⟩
    have := filter_seen es seen
    rw [← hl] at this
    have hz : (leftOf (es.map Ent.me).toArray seen).toList.length = 0 := by simpa using h6
    rw [this] at hz
    simpa using hz
  · rw [filter_seen, ← hl] at hx
    obtain ⟨e, he, rfl⟩ := List.mem_map.1 hx
    have hb1 : w1.heap[b]? = some (.map (es.map Ent.me).toArray clock) := by rcases hw1 with rfl | rfl <;> exact hb
    have hr1 : w1.heap[r]? = some (.mapIter (some b) clock seen clock) := by rcases hw1 with rfl | rfl <;> exact hi
    have hset := MapKept.heap_set (o' := .mapIter (some b) clock (seen.push e.me.born) clock) hr1
    have hee : e ∈ es := by rw [hl] at he; exact (List.mem_filter.1 he).1
    refine .inr ⟨e, es.filter (fun x => !(seen.push e.b).contains x.b), _, he, ?_, hrun, ⟨clock, seen.push e.b, (hset.2 b hne).trans hb1, hset.1, rfl, h2, h3, h4, h5⟩, ?_, ?_, ?_⟩
    · have hnd : (left.map (·.b)).Nodup := by
        rw [hl]
        exact List.Nodup.sublist (List.Sublist.map _ List.filter_sublist) h3
      have e1 : es.filter (fun x => !(seen.push e.b).contains x.b) = left.filter (fun x => x.b != e.b) := by
        rw [hl, List.filter_filter]
        apply List.filter_congr
        intro x _
        by_cases h1 : x.b ∈ seen <;> by_cases h2 : x.b = e.b <;> simp [h1, h2]
      rw [e1]
      exact perm_out left hnd he
    · rcases hw1 with rfl | rfl
      · exact ⟨rfl, rfl, rfl, by simp [setBlock], fun i _ hi => hset.2 i (fun e => hi (by rw [e]))⟩
      · exact ⟨rfl, rfl, rfl, by simp [setBlock], fun i _ hi => hset.2 i (fun e => hi (by rw [e]))⟩
    · rcases hw1 with rfl | rfl <;> simp [setBlock]
    · exact run_entry_at _ r b clock seen _ clock e.me hset.1 ((hset.2 b hne).trans hb1) (List.mem_map.2 ⟨e, hee, rfl⟩) (by simpa [List.map_map, Function.comp_def, Ent.me] using h3)
end
end Go.Proofs.Ytjcihaohpbmogaa.Oct
