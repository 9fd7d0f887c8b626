/-
  Layer 20 (review): maps whose keys are strings: a place of an entry, a range.
-/
import Derived.Test.YtaecigpjcbjcbaaHm
namespace Go.Proofs.Ytaecigpjcbjcbaa.Oct
open Go.RowKit Go.WideMaps Go.ChangeMaps Go.MapKept

section
variable {w w' : World} {b : Nat} {es : List Ent} {h : Hs}
/-- the place of an entry, made where there is none -/
theorem HM.entry {t E : TypeId} (hm : HM w b es) (ht : Try.prog.underlying t = some (.map 9 E)) (hl : h.length ≤ maxLen) {z : Value} (hz : ∀ W, (zeroValue E).run Try.prog W = .ok z W) :
    ∃ w1 e nb, (Instr.mapEntry t (.map (some b)) (hv h)).run Try.prog w = .ok (.tuple #[e.v, .int .i64 (e.b : Int)]) w1 ∧ HM w1 b (if (hlook h es).isSome then es else es ++ [⟨h, z, nb⟩]) ∧ (e ∈ if (hlook h es).isSome then es else es ++ [⟨h, z, nb⟩]) ∧ e.k = h ∧ (hlook h es = some e ∨ (hlook h es = none ∧ e.v = z)) ∧ w.grownBy w1 (some b) ∧ w1.heap.size = w.heap.size := by
  obtain ⟨clock, hb, h2, h3, h4, h5⟩ := hm
  obtain ⟨l, hkey⟩ := has_key h hl
  rcases run_find w hl h5 h4 with ⟨h6, h7⟩ | ⟨j, e, h6, h7, h8⟩
  · refine ⟨setBlock w b (.map ((es.map Ent.me).toArray.push ⟨hv h, z, clock⟩) (clock + 1)), ⟨h, z, clock⟩, clock, ?_, ⟨clock + 1, ?_, ?_, ?_, ?_, ?_⟩, ?_, rfl, .inr ⟨h6, rfl⟩, grown_setBlock hb _, by simp [setBlock]⟩
    · simp [Instr.mapEntry, run_underlying ht, MapKept.run_getObj_map hb, law9.check w false hkey, h7, hz, MapKept.run_setObj_map _ hb, Result.andThen, setBlock, goInt]
    · have e := (MapKept.heap_set (o' := .map ((es.map Ent.me).toArray.push ⟨hv h, z, clock⟩) (clock + 1)) hb).1
      simp only [h6, Option.isSome_none, Bool.false_eq_true, if_false, List.map_append, List.map_cons, List.map_nil]
      rw [show (setBlock w b (.map ((es.map Ent.me).toArray.push ⟨hv h, z, clock⟩) (clock + 1))).heap[b]? = _ from e]
      refine congrArg (fun A => some (Obj.map A (clock + 1))) (Array.toList_inj.1 ?_)
      simp [Ent.me]
    all_goals simp only [h6, Option.isSome_none, Bool.false_eq_true, if_false]
    · intro e he
      rcases List.mem_append.1 he with he | he
      · have := h2 e he; omega
      · simp at he; subst he; show clock < clock + 1; omega
    · rw [List.map_append, List.nodup_append]
      refine ⟨h3, by simp, ?_⟩
      intro x hx y hy
      obtain ⟨e, he, rfl⟩ := List.mem_map.1 hx
      simp at hy; subst hy
      have := h2 e he; omega
    · rw [List.map_append, List.nodup_append]
      refine ⟨h4, by simp, ?_⟩
      intro x hx y hy
      obtain ⟨e, he, rfl⟩ := List.mem_map.1 hx
      simp at hy; subst hy
      exact hlook_none h6 e he
    · intro e he
      rcases List.mem_append.1 he with he | he
      · exact h5 e he
      · simp at he; subst he; exact hl
    · simp
  · have hke := (hlook_some h6).2
    subst hke
    have hmod : ((es.map Ent.me).toArray.modify j fun x => { x with key := hv e.k }) = (es.map Ent.me).toArray := by
      have hj : j < es.length := (List.getElem?_eq_some_iff.1 h7).1
      have hej : es[j] = e := (List.getElem?_eq_some_iff.1 h7).2
      apply Array.ext
      · simp
      · intro i h1 h2
        rw [Array.getElem_modify]
        simp only [List.getElem_toArray, List.getElem_map]
        by_cases hij : j = i
        · subst hij; simp [hej, Ent.me]
        · simp [hij]
    refine ⟨setBlock w b (.map (es.map Ent.me).toArray clock), e, 0, ?_, ⟨clock, ?_, ?_, ?_, ?_, ?_⟩, ?_, rfl, .inl h6, grown_setBlock hb _, by simp [setBlock]⟩
    · simp [Instr.mapEntry, run_underlying ht, MapKept.run_getObj_map hb, law9.check w false hkey, h8, h7, Ent.me, law9.stays w hkey, MapKept.run_setObj_map _ hb, Result.andThen, setBlock, goInt]
      have h9 : ((es.map Ent.me).modify j fun x => { x with key := hv e.k }) = es.map Ent.me := by simpa using congrArg Array.toList hmod
      rw [h9]
    · have e1 := (MapKept.heap_set (o' := .map (es.map Ent.me).toArray clock) hb).1
      simp only [h6, Option.isSome_some, if_true]
      exact e1
    all_goals simp only [h6, Option.isSome_some, if_true]
    · exact h2
    · exact h3
    · exact h4
    · exact h5
    · exact (hlook_some h6).1
/-- a value stored at that place -/
theorem HM.estore {t : TypeId} {e : Ent} (hm : HM w b es) (he : e ∈ es) (v : Value) :
    ∃ w', (Instr.entryStore t (.map (some b)) (.int .i64 (e.b : Int)) v).run Try.prog w = .ok () w' ∧ HM w' b (es.map (fun x => if x.k = e.k then { x with v := v } else x)) ∧ w.grownBy w' (some b) ∧ w'.heap.size = w.heap.size := by
  obtain ⟨clock, hb, h2, h3, h4, h5⟩ := hm
  obtain ⟨j, hj, hej⟩ := List.mem_iff_getElem.1 he
  have hfi : (es.map Ent.me).toArray.findIdx? (fun x => (x.born : Int) == (e.b : Int)) = some j := by
    rw [List.findIdx?_toArray, List.findIdx?_eq_some_iff_getElem]
    refine ⟨by simpa using hj, ?_, ?_⟩
    · simp [hej, Ent.me]
    · intro i hi
      have hi' : i < es.length := by omega
      simp only [List.getElem_map, Ent.me]
      have hp := List.pairwise_iff_getElem.1 (List.nodup_iff_pairwise_ne.1 h3) i j (by simpa using hi') (by simpa using hj) hi
      simp [hej] at hp
      simp; omega
  have h7 : es[j]? = some e := by rw [List.getElem?_eq_getElem hj, hej]
  have hmod := modify_me v h4 h7
  have hmod2 : ((es.map Ent.me).toArray.modify j fun x => { x with val := v }) = ((es.map (fun x => if x.k = e.k then { x with v := v } else x)).map Ent.me).toArray := by
    rw [← hmod]
    apply Array.ext
    · simp
    · intro i h1 h2
      rw [Array.getElem_modify, Array.getElem_modify]
      split
      · rename_i hij; subst hij; simp [hej, Ent.me]
      · rfl
  refine ⟨setBlock w b (.map ((es.map Ent.me).toArray.modify j fun x => { x with val := v }) clock), ?_, ⟨clock, ?_, ?_, ?_, ?_, ?_⟩, grown_setBlock hb _, by simp [setBlock]⟩
  · have ha : (asInt (.int .i64 (e.b : Int))).run Try.prog w = .ok (e.b : Int) w := by simp [asInt, asIntOf]
    simp only [Instr.entryStore, MapKept.run_getObj_map hb, Sem.run_bind, Result.andThen, ha, hfi]
    exact MapKept.run_setObj_map _ hb
  · have e1 := (MapKept.heap_set (o' := .map ((es.map Ent.me).toArray.modify j fun x => { x with val := v }) clock) hb).1
    rw [show (setBlock w b (.map ((es.map Ent.me).toArray.modify j fun x => { x with val := v }) clock)).heap[b]? = _ from e1, hmod2]
  · intro x hx
    obtain ⟨y, hy, rfl⟩ := List.mem_map.1 hx
    have := h2 y hy
    split <;> exact this
  · rw [map_borns]; exact h3
  · rw [map_keys]; exact h4
  · intro x hx
    obtain ⟨y, hy, rfl⟩ := List.mem_map.1 hx
    have := h5 y hy
    split <;> exact this

/-- a range under way: those entries are left -/
def HMR (w : World) (b r : Nat) (es left : List Ent) : Prop :=
  ∃ clock seen, w.heap[b]? = some (.map (es.map Ent.me).toArray clock) ∧ w.heap[r]? = some (.mapIter (some b) clock seen clock) ∧ left = es.filter (fun e => !seen.contains e.b) ∧ (∀ e ∈ es, e.b < clock) ∧ (es.map (·.b)).Nodup ∧ (es.map (·.k)).Nodup ∧ ∀ e ∈ es, e.k.length ≤ maxLen
theorem HMR.hm {r : Nat} {left : List Ent} (hr : HMR w b r es left) : HM w b es := by
  obtain ⟨clock, seen, h1, _, _, h2⟩ := hr
  exact ⟨clock, h1, h2⟩
theorem HMR.same {r : Nat} {left : List Ent} (hr : HMR w b r es left) (hb : w'.heap[b]? = w.heap[b]?) (hi : w'.heap[r]? = w.heap[r]?) : HMR w' b r es left := by
  obtain ⟨clock, seen, h1, h2, h3⟩ := hr
  exact ⟨clock, seen, hb.trans h1, hi.trans h2, h3⟩
theorem HMR.lt {r : Nat} {left : List Ent} (hr : HMR w b r es left) : b < w.heap.size ∧ r < w.heap.size ∧ b ≠ r := by
  obtain ⟨clock, seen, h1, h2, h3⟩ := hr
  refine ⟨(Array.getElem?_eq_some_iff.1 h1).1, (Array.getElem?_eq_some_iff.1 h2).1, ?_⟩
  rintro rfl
  rw [h1] at h2
  cases h2
theorem HM.range {t E : TypeId} (hm : HM w b es) (ht : Try.prog.underlying t = some (.map 9 E)) :
    ∃ w', (Instr.range t (.map (some b))).run Try.prog w = .ok (.pointer (some ⟨w.heap.size, 0, none⟩)) w' ∧ HMR w' b w.heap.size es es ∧ Below w.heap.size w w' ∧ w'.heap.size = w.heap.size + 1 := by
  have hlt := hm.lt
  obtain ⟨clock, hb, h2, h3, h4, h5⟩ := hm
  refine ⟨_, run_range_map w t 9 E b _ clock ht hb, ⟨clock, #[], (Below.heap_alloc w _ b hlt).trans hb, heap_alloc_new w _, by symm; exact List.filter_eq_self.2 (by simp), h2, h3, h4, h5⟩, (Below.refl _ w).alloc (Nat.le_refl _) _, by simp⟩
theorem filter_seen (es : List Ent) (seen : Array Nat) : (leftOf (es.map Ent.me).toArray seen).toList = (es.filter (fun e => !seen.contains e.b)).map Ent.me := by
  unfold leftOf
  rw [Array.toList_filter]
  show (es.map Ent.me).filter _ = _
  rw [List.filter_map]
  rfl
theorem perm_out {e : Ent} : ∀ (l : List Ent), (l.map (·.b)).Nodup → e ∈ l → l.Perm (e :: l.filter (fun x => x.b != e.b))
  | [], _, h => by cases h
  | x :: l, hn, he => by
    simp only [List.map_cons, List.nodup_cons] at hn
    rcases List.mem_cons.1 he with rfl | he
    · have e1 : (e :: l).filter (fun x => x.b != e.b) = l := by
        rw [List.filter_cons, if_neg (by simp)]
        refine List.filter_eq_self.2 fun y hy => ?_
        have : y.b ≠ e.b := fun hc => hn.1 (List.mem_map.2 ⟨y, hy, hc⟩)
        simpa using this
      rw [e1]
    · have hne : x.b ≠ e.b := fun hc => hn.1 (List.mem_map.2 ⟨e, he, hc.symm⟩)
      rw [List.filter_cons, if_pos (by simpa using hne)]
      exact ((perm_out l hn.2 he).cons x).trans (List.Perm.swap e x _)
/-- the step -/
theorem HMR.next {r : Nat} {left : List Ent} (hr : HMR w b r es left) (ty : TypeId) :
    (left = [] ∧ (Instr.next (.pointer (some ⟨r, 0, none⟩)) false ty).run Try.prog w = .ok (.tuple #[.bool false]) w) ∨
    ∃ e left' w', e ∈ left ∧ left.Perm (e :: left') ∧ (Instr.next (.pointer (some ⟨r, 0, none⟩)) false ty).run Try.prog w = .ok (.tuple #[.bool true, hv e.k, e.v]) w' ∧ HMR w' b r es left' ∧ w.grownBy w' (some r) ∧ w'.heap.size = w.heap.size ∧ (Instr.entry (.pointer (some ⟨r, 0, none⟩))).run Try.prog w' = .ok (.tuple #[hv e.k, e.v]) w' := by
  have hne := hr.lt.2.2
  obtain ⟨clock, seen, hb, hi, hl, h2, h3, h4, h5⟩ := hr
  rcases run_next_at (P := Try.prog) w ty r b clock clock seen _ clock hi hb (by
    intro x hx
    simp only [List.mem_map] at hx
    obtain ⟨e, he, rfl⟩ := hx
    exact h2 e he) (Nat.le_refl _) with ⟨h6, h7⟩ | ⟨x, hx, w1, hw1, hrun⟩
  · refine .inl ⟨?_, h7⟩
    have := filter_seen es seen
    rw [← hl] at this
    have hz : (leftOf (es.map Ent.me).toArray seen).toList.length = 0 := by simpa using h6
    rw [this] at hz
    simpa using hz
  · rw [filter_seen, ← hl] at hx
    obtain ⟨e, he, rfl⟩ := List.mem_map.1 hx
    have hb1 : w1.heap[b]? = some (.map (es.map Ent.me).toArray clock) := by rcases hw1 with rfl | rfl <;> exact hb
    have hr1 : w1.heap[r]? = some (.mapIter (some b) clock seen clock) := by rcases hw1 with rfl | rfl <;> exact hi
    have hset := MapKept.heap_set (o' := .mapIter (some b) clock (seen.push e.me.born) clock) hr1
    have hee : e ∈ es := by rw [hl] at he; exact (List.mem_filter.1 he).1
    refine .inr ⟨e, es.filter (fun x => !(seen.push e.b).contains x.b), _, he, ?_, hrun, ⟨clock, seen.push e.b, (hset.2 b hne).trans hb1, hset.1, rfl, h2, h3, h4, h5⟩, ?_, ?_, ?_⟩
    · have hnd : (left.map (·.b)).Nodup := by
        rw [hl]
        exact List.Nodup.sublist (List.Sublist.map _ List.filter_sublist) h3
      have e1 : es.filter (fun x => !(seen.push e.b).contains x.b) = left.filter (fun x => x.b != e.b) := by
        rw [hl, List.filter_filter]
        apply List.filter_congr
        intro x _
        by_cases h1 : x.b ∈ seen <;> by_cases h2 : x.b = e.b <;> simp [h1, h2]
      rw [e1]
      exact perm_out left hnd he
    · rcases hw1 with rfl | rfl
      · exact ⟨rfl, rfl, rfl, by simp [setBlock], fun i _ hi => hset.2 i (fun e => hi (by rw [e]))⟩
      · exact ⟨rfl, rfl, rfl, by simp [setBlock], fun i _ hi => hset.2 i (fun e => hi (by rw [e]))⟩
    · rcases hw1 with rfl | rfl <;> simp [setBlock]
    · exact run_entry_at _ r b clock seen _ clock e.me hset.1 ((hset.2 b hne).trans hb1) (List.mem_map.2 ⟨e, hee, rfl⟩) (by simpa [List.map_map, Function.comp_def, Ent.me] using h3)
end
#print axioms HMR.next
end Go.Proofs.Ytaecigpjcbjcbaa.Oct
