/-
  Layer 12 (deps): sets of hashes; laws of the walk.
-/
import Derived.Test.YtijkpkcopjkhkaaItems
namespace Go.Proofs.Ytijkpkcopjkhkaa.Oct
open Go.RowKit

/-! ### A struct stored into its own new block -/
theorem setCells_heap : ∀ (vs : List Value) (o : Nat) (w : World) (b : Nat), ∃ h, w.setCells b o vs = { w with heap := h } ∧ h.size = w.heap.size
  | [], _, w, _ => ⟨w.heap, rfl, rfl⟩
  | v :: vs, o, w, b => by
    obtain ⟨h, e, hs⟩ := setCells_heap vs (o + 1) (w.setCell ⟨b, o, none⟩ v) b
    obtain ⟨h2, e2, hs2⟩ : ∃ h2, w.setCell ⟨b, o, none⟩ v = { w with heap := h2 } ∧ h2.size = w.heap.size := ⟨_, rfl, by simp⟩
    refine ⟨h, ?_, ?_⟩
    · simp only [World.setCells]
      rw [e, e2]
    · rw [hs, e2]; exact hs2
theorem setCells_fresh (w : World) (Z cs : List Value) (t : TypeId) (hl : cs.length = Z.length) : (w.alloc (.cells Z.toArray t)).setCells w.heap.size 0 cs = w.alloc (.cells cs.toArray t) := by
  have hb : Blk (w.alloc (.cells Z.toArray t)) w.heap.size t Z := by simpa using Blk.new w Z.toArray t
  have h1 := Blk.setCells cs 0 _ Z hb (by omega)
  obtain ⟨h, e, hs⟩ := setCells_heap cs 0 (w.alloc (.cells Z.toArray t)) w.heap.size
  rw [e] at h1 ⊢
  obtain ⟨h2, h3⟩ := h1
  have hc : Z.take 0 ++ cs ++ Z.drop (0 + cs.length) = cs := by
    rw [List.drop_eq_nil_of_le (by omega)]; simp
  rw [hc] at h2
  have hh : h = w.heap.push (.cells cs.toArray t) := by
    apply Array.ext_getElem?
    intro i
    by_cases hi : i = w.heap.size
    · subst hi
      rw [Array.getElem?_push_size]
      exact h2
    · by_cases hlt : i < w.heap.size
      · have := h3.block i (by simp; omega) (by simpa using hi)
        rw [show ({ (w.alloc (.cells Z.toArray t)) with heap := h } : World).heap[i]? = h[i]? from rfl] at this
        rw [this, Below.heap_alloc w _ i hlt, Array.getElem?_push, if_neg hi]
      · rw [Array.getElem?_eq_none (by rw [hs]; simp; omega), Array.getElem?_eq_none (by simp; omega)]
  rw [hh]
  rfl
#print axioms setCells_fresh
section
variable {P : Program} {ops : Array Oper} {rest : List Oper} {op : Oper} {a : Act} {w : World} {Q : Exit → Act → World → Prop}
theorem wpList_store_fresh (hgd : op.guard = none) (ty : TypeId) (x y : Operand) (ho : op.op = .store ty x y) (Z cs : List Value) (t : TypeId)
    (hx : a.eval x = .pointer (some ⟨w.heap.size, 0, none⟩)) (hy : a.eval y = .agg cs.toArray) (hl : cs.length = Z.length) (hi : (P.info? ty).map (·.size) = some cs.length) (h1 : ∀ v ∈ cs, v.oneCell' = true)
    (h : wpList P ops Q rest (a.put op.dst undef) (w.alloc (.cells cs.toArray t))) : wpList P ops Q (op :: rest) a (w.alloc (.cells Z.toArray t)) := by
  have hb : Blk (w.alloc (.cells Z.toArray t)) w.heap.size t Z := by simpa using Blk.new w Z.toArray t
  refine wpList_store_mid hgd ty x y ho w.heap.size 0 cs.toArray hx hy (by simpa using hb.there 0 cs.length (by omega)) (by simpa using hi) (all_oneCell_toArray h1) ?_
  rw [show cs.toArray.toList = cs by simp, setCells_fresh w Z cs t hl]
  exact h
end

/-! ### Sets -/
/-- a set of hashes -/
def SM (w : World) (b : Nat) (ks : List Hs) : Prop := ∃ es, HM w b es ∧ es.map (·.k) = ks ∧ ∀ e ∈ es, e.v = .agg #[]
def addK (ks : List Hs) (h : Hs) : List Hs := if h ∈ ks then ks else ks ++ [h]
theorem mem_addK {ks : List Hs} {h x : Hs} : x ∈ addK ks h ↔ x ∈ ks ∨ x = h := by
  unfold addK
  split
  · rename_i hm
    constructor
    · exact .inl
    · rintro (h1 | rfl) <;> assumption
  · simp
theorem addK_nodup {ks : List Hs} {h : Hs} (hn : ks.Nodup) : (addK ks h).Nodup := by
  unfold addK
  split
  · exact hn
  · rename_i hm
    rw [List.nodup_append]
    exact ⟨hn, by simp, fun a ha b hb => by simp at hb; subst hb; rintro rfl; exact hm ha⟩
section
variable {w w' : World} {b : Nat} {ks : List Hs} {h : Hs}
theorem SM.lt (hm : SM w b ks) : b < w.heap.size := by obtain ⟨es, h1, _⟩ := hm; exact h1.lt
theorem SM.same (hm : SM w b ks) (hs : w'.heap[b]? = w.heap[b]?) : SM w' b ks := by obtain ⟨es, h1, h2⟩ := hm; exact ⟨es, h1.same hs, h2⟩
theorem SM.kept {row : Option Nat} (hm : SM w b ks) (hg : w.grownBy w' row) (hne : some b ≠ row) : SM w' b ks := hm.same (hg.block b hm.lt hne)
theorem SM.below {B : Nat} (hm : SM w b ks) (hb : Below B w w') (hB : b < B) : SM w' b ks := hm.same (hb.block b hB)
theorem SM.alloc (hm : SM w b ks) (o : Obj) : SM (w.alloc o) b ks := hm.same (Below.heap_alloc w o b hm.lt)
theorem SM.made (w : World) : SM (w.alloc (.map #[] 0)) w.heap.size [] := ⟨[], HM.made w, rfl, by simp⟩
theorem SM.nodup (hm : SM w b ks) : ks.Nodup ∧ ∀ k ∈ ks, k.length = 32 := by
  obtain ⟨es, ⟨clock, _, _, _, h4, h5⟩, rfl, _⟩ := hm
  refine ⟨h4, fun k hk => ?_⟩
  obtain ⟨e, he, rfl⟩ := List.mem_map.1 hk
  exact h5 e he
theorem isSome_hlook {es : List Ent} : (hlook h es).isSome = decide (h ∈ es.map (·.k)) := by
  cases hl : hlook h es with
  | none =>
    have : h ∉ es.map (·.k) := by
      intro hc
      obtain ⟨e, he, hk⟩ := List.mem_map.1 hc
      exact hlook_none hl e he hk
    simp [this]
  | some e =>
    have := hlook_some hl
    have h2 : h ∈ es.map (·.k) := List.mem_map.2 ⟨e, this.1, this.2⟩
    simp [h2]
theorem SM.put (hm : SM w b ks) (hl : h.length = 32) : ∃ w', (Instr.mapUpdate 43 (.map (some b)) (.agg (U h).toArray) (.agg #[])).run Try.prog w = .ok () w' ∧ SM w' b (addK ks h) ∧ w.grownBy w' (some b) ∧ w'.heap.size = w.heap.size := by
  obtain ⟨es, h1, rfl, h3⟩ := hm
  obtain ⟨w', nb, r1, r2, r3, r4⟩ := h1.put (t := 43) (E := 52) Try.underlying43 hl (.agg #[])
  refine ⟨w', r1, ⟨_, r2, ?_, ?_⟩, r3, r4⟩
  · unfold hputE addK
    rw [isSome_hlook]
    by_cases hc : h ∈ es.map (·.k)
    · simp only [hc, decide_true, if_true]; exact map_keys es h _
    · simp only [hc, decide_false, Bool.false_eq_true, if_false]; simp
  · intro e he
    unfold hputE at he
    split at he
    · obtain ⟨x, hx, rfl⟩ := List.mem_map.1 he
      split
      · rfl
      · exact h3 x hx
    · rcases List.mem_append.1 he with he | he
      · exact h3 e he
      · simp at he; subst he; rfl
theorem zero52 (W : World) : (zeroValue 52).run Try.prog W = .ok (.agg #[]) W := by kernel_rfl
theorem SM.look (hm : SM w b ks) (hl : h.length = 32) : (Instr.lookup 43 (.map (some b)) (.agg (U h).toArray) true).run Try.prog w = .ok (.tuple #[.agg #[], .bool (decide (h ∈ ks))]) w := by
  obtain ⟨es, h1, rfl, h3⟩ := hm
  have := h1.look (t := 43) (E := 52) Try.underlying43 hl true (zero52 w)
  show (Instr.lookup 43 (.map (some b)) (hv h) true).run Try.prog w = _
  rw [this, ← isSome_hlook]
  unfold lkv
  cases hk : hlook h es with
  | none => simp
  | some e => simp [h3 e (hlook_some hk).1]
theorem SM.len (hm : SM w b ks) (ty : TypeId) : (Builtin.len_ #[43] ty #[.map (some b)]).run Try.prog w = .ok (.int .i64 ks.length) w := by
  obtain ⟨es, h1, rfl, h3⟩ := hm
  rw [h1.len (t := 43) (E := 52) Try.underlying43 ty]; simp
end
section
variable {ops : Array Oper} {rest : List Oper} {o : Oper} {a : Act} {w : World} {Q : Exit → Act → World → Prop}
theorem wpList_sput (hg : o.guard = none) (m x v : Operand) (hop : o.op = Op.mapUpdate 43 m x v) (b : Nat) (ks : List Hs) (h : Hs) (hm : a.eval m = .map (some b)) (hx : a.eval x = .agg (U h).toArray) (hvv : a.eval v = .agg #[])
    (hs : SM w b ks) (hl : h.length = 32) (hK : ∀ w', SM w' b (addK ks h) → w.grownBy w' (some b) → w'.heap.size = w.heap.size → wpList Try.prog ops Q rest (a.put o.dst undef) w') : wpList Try.prog ops Q (o :: rest) a w := by
  refine wpList_plain hg fun K' hK' => ?_
  obtain ⟨w', hrun, r1, r2, r3⟩ := hs.put hl
  unfold Oper.wp
  simp [execOp, hop, hm, hx, hvv, hrun, Result.andThen]
  exact hK' _ _ (hK w' r1 r2 r3)
end
#print axioms wpList_sput
end Go.Proofs.Ytijkpkcopjkhkaa.Oct
