/-
  Layer 15 (people): maps by their keys and values; memory as a list of what its blocks hold.
-/
import Derived.Test.YtjeahlfmapacfaaDoorHm
namespace Go.Proofs.YtjeahlfmapacfaaDoor.Oct
open Go.RowKit Go.WideMaps Go.ChangeMaps Go.MapKept

/-- a map's keys and values, in the order in which they came in -/
abbrev Kv := List (Hs × Value)
def kget (l : Kv) (h : Hs) : Option Value := (l.find? (fun x => x.1 == h)).map (·.2)
def khas (l : Kv) (h : Hs) : Bool := (kget l h).isSome
def kput (l : Kv) (h : Hs) (v : Value) : Kv := if khas l h then l.map (fun x => if x.1 = h then (h, v) else x) else l ++ [(h, v)]
def kdel (l : Kv) (h : Hs) : Kv := l.filter (fun x => x.1 != h)
/-- at block b lies a map with just these -/
def MP (w : World) (b : Nat) (l : Kv) : Prop := ∃ es, HM w b es ∧ es.map (fun e => (e.k, e.v)) = l

theorem erase_map {α β : Type} (f : α → β) : ∀ (l : List α) (j : Nat), (l.map f).eraseIdx j = (l.eraseIdx j).map f
  | [], _ => rfl
  | _ :: _, 0 => rfl
  | x :: l, j + 1 => by simp [erase_map f l j]
theorem kget_hlook (es : List Ent) (h : Hs) : kget (es.map (fun e => (e.k, e.v))) h = (hlook h es).map (·.v) := by
  unfold kget hlook
  rw [List.find?_map]
  cases hf : List.find? ((fun x : Hs × Value => x.1 == h) ∘ fun e : Ent => (e.k, e.v)) es with
  | none =>
    rw [show List.find? (fun e : Ent => e.k == h) es = none from hf]
    rfl
  | some e =>
    rw [show List.find? (fun e : Ent => e.k == h) es = some e from hf]
    rfl
section
variable {w w' : World} {b : Nat} {l : Kv} {h : Hs}
theorem MP.lt (hm : MP w b l) : b < w.heap.size := by obtain ⟨es, h1, _⟩ := hm; exact h1.lt
theorem MP.same (hm : MP w b l) (hs : w'.heap[b]? = w.heap[b]?) : MP w' b l := by obtain ⟨es, h1, h2⟩ := hm; exact ⟨es, h1.same hs, h2⟩
theorem MP.made (w : World) : MP (w.alloc (.map #[] 0)) w.heap.size [] := ⟨[], HM.made w, rfl⟩
theorem MP.nodup (hm : MP w b l) : (l.map (·.1)).Nodup := by
  obtain ⟨es, ⟨clock, _, _, _, h4, _⟩, rfl⟩ := hm
  rw [List.map_map]
  exact h4
theorem MP.short (hm : MP w b l) : ∀ x ∈ l, x.1.length ≤ maxLen := by
  obtain ⟨es, ⟨clock, _, _, _, _, h5⟩, rfl⟩ := hm
  intro x hx
  obtain ⟨e, he, rfl⟩ := List.mem_map.1 hx
  exact h5 e he
theorem MP.look {t E : TypeId} (hm : MP w b l) (ht : Tryd.prog.underlying t = some (.map 9 E)) (hl : h.length ≤ maxLen) {z : Value} (hz : (zeroValue E).run Tryd.prog w = .ok z w) :
    (Instr.lookup t (.map (some b)) (hv h) false).run Tryd.prog w = .ok ((kget l h).getD z) w := by
  obtain ⟨es, h1, rfl⟩ := hm
  rw [h1.look ht hl false hz, kget_hlook]
  rfl
theorem MP.look2 {t E : TypeId} (hm : MP w b l) (ht : Tryd.prog.underlying t = some (.map 9 E)) (hl : h.length ≤ maxLen) {z : Value} (hz : (zeroValue E).run Tryd.prog w = .ok z w) :
    (Instr.lookup t (.map (some b)) (hv h) true).run Tryd.prog w = .ok (.tuple #[(kget l h).getD z, .bool (khas l h)]) w := by
  obtain ⟨es, h1, rfl⟩ := hm
  unfold khas
  rw [h1.look ht hl true hz, kget_hlook]
  cases hlook h es <;> rfl
theorem MP.len {t E : TypeId} (hm : MP w b l) (ht : Tryd.prog.underlying t = some (.map 9 E)) (ty : TypeId) : (Builtin.len_ #[t] ty #[.map (some b)]).run Tryd.prog w = .ok (.int .i64 l.length) w := by
  obtain ⟨es, h1, rfl⟩ := hm
  rw [h1.len ht ty]; simp
theorem MP.put {t E : TypeId} (hm : MP w b l) (ht : Tryd.prog.underlying t = some (.map 9 E)) (hl : h.length ≤ maxLen) (v : Value) :
    ∃ w', (Instr.mapUpdate t (.map (some b)) (hv h) v).run Tryd.prog w = .ok () w' ∧ MP w' b (kput l h v) ∧ w.grownBy w' (some b) ∧ w'.heap.size = w.heap.size := by
  obtain ⟨es, h1, rfl⟩ := hm
  obtain ⟨w', nb, r1, r2, r3, r4⟩ := h1.put ht hl v
  refine ⟨w', r1, ⟨_, r2, ?_⟩, r3, r4⟩
  unfold hputE kput khas
  rw [kget_hlook]
  cases hc : hlook h es with
  | none => simp
  | some e =>
    simp only [Option.isSome_some, Option.map_some, if_true, List.map_map]
    apply List.map_congr_left
    intro x _
    simp only [Function.comp]
    by_cases hx : x.k = h
    · simp [hx]
    · simp [hx]
theorem MP.del {t E : TypeId} (hm : MP w b l) (ht : Tryd.prog.underlying t = some (.map 9 E)) (hl : h.length ≤ maxLen) (ty : TypeId) :
    ∃ w', (Builtin.delete_ #[t, 9] ty #[.map (some b), hv h]).run Tryd.prog w = .ok (.tuple #[]) w' ∧ MP w' b (kdel l h) ∧ w.grownBy w' (some b) ∧ w'.heap.size = w.heap.size := by
  obtain ⟨es, ⟨clock, hb, h2, h3, h4, h5⟩, rfl⟩ := hm
  obtain ⟨lt, hkey⟩ := has_key h hl
  rcases run_find w hl h5 h4 with ⟨h6, h7⟩ | ⟨j, e, h6, h7, h8⟩
  · refine ⟨setBlock w b (.map (es.map Ent.me).toArray clock), ?_, ⟨es, ⟨clock, (MapKept.heap_set hb).1, h2, h3, h4, h5⟩, ?_⟩, grown_setBlock hb _, by simp [setBlock]⟩
    · simp [Builtin.delete_, run_underlying ht, MapKept.run_getObj_map hb, law9.check w _ hkey, h7, MapKept.run_setObj_map _ hb, Result.andThen, setBlock]
    · unfold kdel
      symm
      refine List.filter_eq_self.2 fun x hx => ?_
      obtain ⟨e, he, rfl⟩ := List.mem_map.1 hx
      have := hlook_none h6 e he
      simpa using this
  · have hj : j < es.length := (List.getElem?_eq_some_iff.1 h7).1
    have hej : es[j] = e := (List.getElem?_eq_some_iff.1 h7).2
    have hke := (hlook_some h6).2
    have hsub : ((es.map Ent.me).toArray.eraseIdxIfInBounds j) = ((es.eraseIdx j).map Ent.me).toArray := by
      apply Array.toList_inj.1
      unfold Array.eraseIdxIfInBounds
      rw [dif_pos (by simpa using hj)]
      simp [erase_map]
    refine ⟨setBlock w b (.map ((es.eraseIdx j).map Ent.me).toArray clock), ?_, ⟨es.eraseIdx j, ⟨clock, (MapKept.heap_set hb).1, fun x hx => h2 x (List.mem_of_mem_eraseIdx hx), ?_, ?_, fun x hx => h5 x (List.mem_of_mem_eraseIdx hx)⟩, ?_⟩, grown_setBlock hb _, by simp [setBlock]⟩
    · rw [← hsub]
      simp [Builtin.delete_, run_underlying ht, MapKept.run_getObj_map hb, law9.check w _ hkey, h8, MapKept.run_setObj_map _ hb, Result.andThen, setBlock]
    · exact List.Nodup.sublist ((List.eraseIdx_sublist es j).map _) h3
    · exact List.Nodup.sublist ((List.eraseIdx_sublist es j).map _) h4
    · unfold kdel
      rw [List.filter_map]
      refine congrArg (List.map (fun e : Ent => (e.k, e.v))) ?_
      clear h2 h3 h5 hb hkey h8 hsub h6
      subst hke
      induction es generalizing j with
      | nil => simp at hj
      | cons x xs ih =>
        simp only [List.map_cons, List.nodup_cons] at h4
        cases j with
        | zero =>
          simp only [List.getElem_cons_zero] at hej
          subst hej
          rw [List.eraseIdx_zero, List.tail_cons, List.filter_cons, if_neg (by simp)]
          symm
          refine List.filter_eq_self.2 fun y hy => ?_
          have : y.k ≠ x.k := fun hc => h4.1 (List.mem_map.2 ⟨y, hy, hc⟩)
          simpa using this
        | succ i =>
          have hi : i < xs.length := by simpa using hj
          have hei : xs[i] = e := by simpa using hej
          have hne : x.k ≠ e.k := fun hc => h4.1 (List.mem_map.2 ⟨e, by rw [← hei]; exact List.getElem_mem hi, hc.symm⟩)
          rw [List.eraseIdx_cons_succ, List.filter_cons, if_pos (by simpa using hne), ih h4.2 i (by rw [List.getElem?_eq_getElem hi, hei]) hi hei]
end
#print axioms MP.put
#print axioms MP.del



end Go.Proofs.YtjeahlfmapacfaaDoor.Oct
