/-
  Layer 11 (lines): maps by their keys and values; memory as a list of what its blocks hold.
-/
import Derived.Test.YtjcihaohpbmogaaMky
namespace Go.Proofs.Ytjcihaohpbmogaa.Oct
open Go.RowKit Go.WideMaps Go.ChangeMaps Go.MapKept
set_option linter.unusedSectionVars false
set_option maxRecDepth 100000

/-- a map's keys and values, in the order in which they came in -/
abbrev Kv (K : Type) := List (K × Value)
def kget {K : Type} [DecidableEq K] (l : Kv K) (h : K) : Option Value := (l.find? (fun x => x.1 == h)).map (·.2)
def khas {K : Type} [DecidableEq K] (l : Kv K) (h : K) : Bool := (kget l h).isSome
def kput {K : Type} [DecidableEq K] (l : Kv K) (h : K) (v : Value) : Kv K := if khas l h then l.map (fun x => if x.1 = h then (h, v) else x) else l ++ [(h, v)]
def kdel {K : Type} [DecidableEq K] (l : Kv K) (h : K) : Kv K := l.filter (fun x => x.1 != h)
/-- at block b lies a map with just these -/
def MP {K : Type} [MK K] (w : World) (b : Nat) (l : Kv K) : Prop := ∃ es, HM w b es ∧ es.map (fun e => (e.k, e.v)) = l

theorem erase_map {α β : Type} (f : α → β) : ∀ (l : List α) (j : Nat), (l.map f).eraseIdx j = (l.eraseIdx j).map f
  | [], _ => rfl
  | _ :: _, 0 => rfl
  | x :: l, j + 1 => by simp [erase_map f l j]
theorem kget_hlook {K : Type} [DecidableEq K] (es : List (Ent K)) (h : K) : kget (es.map (fun e => (e.k, e.v))) h = (hlook h es).map (·.v) := by
  unfold kget hlook
  rw [List.find?_map]
  cases hf : List.find? ((fun x : K × Value => x.1 == h) ∘ fun e : Ent K => (e.k, e.v)) es with
  | none =>
    rw [show List.find? (fun e : Ent K => e.k == h) es = none from hf]
    rfl
  | some e =>
    rw [show List.find? (fun e : Ent K => e.k == h) es = some e from hf]
    rfl
section
variable {K : Type} [MK K] [DecidableEq K] {w w' : World} {b : Nat} {l : Kv K} {h : K}
theorem MP.lt (hm : MP w b l) : b < w.heap.size := by obtain ⟨es, h1, _⟩ := hm; exact h1.lt
theorem MP.same (hm : MP w b l) (hs : w'.heap[b]? = w.heap[b]?) : MP w' b l := by obtain ⟨es, h1, h2⟩ := hm; exact ⟨es, h1.same hs, h2⟩
theorem MP.made (w : World) : MP (K := K) (w.alloc (.map #[] 0)) w.heap.size [] := ⟨[], HM.made w, rfl⟩
theorem MP.nodup (hm : MP w b l) : (l.map (·.1)).Nodup := by
  obtain ⟨es, ⟨clock, _, _, _, h4, _⟩, rfl⟩ := hm
  rw [List.map_map]
  exact h4
theorem MP.short (hm : MP w b l) : ∀ x ∈ l, MK.ok x.1 := by
  obtain ⟨es, ⟨clock, _, _, _, _, h5⟩, rfl⟩ := hm
  intro x hx
  obtain ⟨e, he, rfl⟩ := List.mem_map.1 hx
  exact h5 e he
theorem MP.look {t E : TypeId} (hm : MP w b l) (ht : Try.prog.underlying t = some (.map (MK.kt K) E)) (hl : MK.ok h) {z : Value} (hz : (zeroValue E).run Try.prog w = .ok z w) :
    (Instr.lookup t (.map (some b)) (MK.kv h) false).run Try.prog w = .ok ((kget l h).getD z) w := by
  obtain ⟨es, h1, rfl⟩ := hm
  rw [h1.look ht hl false hz, kget_hlook]
  rfl
theorem MP.look2 {t E : TypeId} (hm : MP w b l) (ht : Try.prog.underlying t = some (.map (MK.kt K) E)) (hl : MK.ok h) {z : Value} (hz : (zeroValue E).run Try.prog w = .ok z w) :
    (Instr.lookup t (.map (some b)) (MK.kv h) true).run Try.prog w = .ok (.tuple #[(kget l h).getD z, .bool (khas l h)]) w := by
  obtain ⟨es, h1, rfl⟩ := hm
  unfold khas
  rw [h1.look ht hl true hz, kget_hlook]
  cases hlook h es <;> rfl
theorem MP.len {t E : TypeId} (hm : MP w b l) (ht : Try.prog.underlying t = some (.map (MK.kt K) E)) (ty : TypeId) : (Builtin.len_ #[t] ty #[.map (some b)]).run Try.prog w = .ok (.int .i64 l.length) w := by
  obtain ⟨es, h1, rfl⟩ := hm
  rw [h1.len ht ty]; simp
theorem MP.put {t E : TypeId} (hm : MP w b l) (ht : Try.prog.underlying t = some (.map (MK.kt K) E)) (hl : MK.ok h) (v : Value) :
    ∃ w', (Instr.mapUpdate t (.map (some b)) (MK.kv h) v).run Try.prog w = .ok () w' ∧ MP w' b (kput l h v) ∧ w.grownBy w' (some b) ∧ w'.heap.size = w.heap.size := by
  obtain ⟨es, h1, rfl⟩ := hm
  obtain ⟨w', nb, r1, r2, r3, r4⟩ := h1.put ht hl v
  refine ⟨w', r1, ⟨_, r2, ?_⟩, r3, r4⟩
  unfold hputE kput khas
  rw [kget_hlook]
  cases hc : hlook h es with
  | none => simp
  | some e =>
    simp only [Option.isSome_some, Option.map_some, if_true, List.map_map]
    apply List.map_congr_left
    intro x _
    simp only [Function.comp]
    by_cases hx : x.k = h
    · simp [hx]
    · simp [hx]
theorem MP.del {t E : TypeId} (hm : MP w b l) (ht : Try.prog.underlying t = some (.map (MK.kt K) E)) (hl : MK.ok h) (ty : TypeId) :
    ∃ w', (Builtin.delete_ #[t, MK.kt K] ty #[.map (some b), MK.kv h]).run Try.prog w = .ok (.tuple #[]) w' ∧ MP w' b (kdel l h) ∧ w.grownBy w' (some b) ∧ w'.heap.size = w.heap.size := by
  obtain ⟨es, ⟨clock, hb, h2, h3, h4, h5⟩, rfl⟩ := hm
  obtain ⟨lt, hkey⟩ := MK.has h hl
  rcases run_find w hl h5 h4 with ⟨h6, h7⟩ | ⟨j, e, h6, h7, h8⟩
  · refine ⟨setBlock w b (.map (es.map Ent.me).toArray clock), ?_, ⟨es, ⟨clock, (MapKept.heap_set hb).1, h2, h3, h4, h5⟩, ?_⟩, grown_setBlock hb _, by simp [setBlock]⟩
    · simp [Builtin.delete_, run_underlying ht, MapKept.run_getObj_map hb, (MK.law (K := K)).check w _ hkey, h7, MapKept.run_setObj_map _ hb, Result.andThen, setBlock]
    · unfold kdel
      symm
      refine List.filter_eq_self.2 fun x hx => ?_
      obtain ⟨e, he, rfl⟩ := List.mem_map.1 hx
      have := hlook_none h6 e he
      simpa using this
  · have hj : j < es.length := (List.getElem?_eq_some_iff.1 h7).1
    have hej : es[j] = e := (List.getElem?_eq_some_iff.1 h7).2
    have hke := (hlook_some h6).2
    have hsub : ((es.map Ent.me).toArray.eraseIdxIfInBounds j) = ((es.eraseIdx j).map Ent.me).toArray := by
      apply Array.toList_inj.1
      unfold Array.eraseIdxIfInBounds
      rw [dif_pos (by simpa using hj)]
      simp [erase_map]
    refine ⟨setBlock w b (.map ((es.eraseIdx j).map Ent.me).toArray clock), ?_, ⟨es.eraseIdx j, ⟨clock, (MapKept.heap_set hb).1, fun x hx => h2 x (List.mem_of_mem_eraseIdx hx), ?_, ?_, fun x hx => h5 x (List.mem_of_mem_eraseIdx hx)⟩, ?_⟩, grown_setBlock hb _, by simp [setBlock]⟩
    · rw [← hsub]
      simp [Builtin.delete_, run_underlying ht, MapKept.run_getObj_map hb, (MK.law (K := K)).check w _ hkey, h8, MapKept.run_setObj_map _ hb, Result.andThen, setBlock]
    · exact List.Nodup.sublist ((List.eraseIdx_sublist es j).map _) h3
    · exact List.Nodup.sublist ((List.eraseIdx_sublist es j).map _) h4
    · unfold kdel
      rw [List.filter_map]
      refine congrArg (List.map (fun e : Ent K => (e.k, e.v))) ?_
      clear h2 h3 h5 hb hkey h8 hsub h6
      subst hke
      induction es generalizing j with
      | nil => simp at hj
      | cons x xs ih =>
        simp only [List.map_cons, List.nodup_cons] at h4
        cases j with
        | zero =>
          simp only [List.getElem_cons_zero] at hej
          subst hej
          rw [List.eraseIdx_zero, List.tail_cons, List.filter_cons, if_neg (by simp)]
          symm
          refine List.filter_eq_self.2 fun y hy => ?_
          have : y.k ≠ x.k := fun hc => h4.1 (List.mem_map.2 ⟨y, hy, hc⟩)
          simpa using this
        | succ i =>
          have hi : i < xs.length := by simpa using hj
          have hei : xs[i] = e := by simpa using hej
          have hne : x.k ≠ e.k := fun hc => h4.1 (List.mem_map.2 ⟨e, by rw [← hei]; exact List.getElem_mem hi, hc.symm⟩)
          rw [List.eraseIdx_cons_succ, List.filter_cons, if_pos (by simpa using hne), ih h4.2 i (by rw [List.getElem?_eq_getElem hi, hei]) hi hei]
end
#print axioms MP.put
#print axioms MP.del

/-- what a block holds -/
inductive Cont where
  | cells (t : TypeId) (L : List Value)
  | kv (l : Kv Vx)
  | kh (l : Kv Hs)
def Cont.at (c : Cont) (w : World) (b : Nat) : Prop := match c with
  | .cells t L => Blk w b t L
  | .kv l => MP w b l
  | .kh l => MP w b l
theorem Cont.at_lt {c : Cont} {w : World} {b : Nat} (h : c.at w b) : b < w.heap.size := by
  cases c with
  | cells t L => exact Blk.lt h
  | kv l => exact MP.lt h
  | kh l => exact MP.lt h
theorem Cont.at_same {c : Cont} {w w' : World} {b : Nat} (h : c.at w b) (hs : w'.heap[b]? = w.heap[b]?) : c.at w' b := by
  cases c with
  | cells t L => exact hs.trans h
  | kv l => exact MP.same h hs
  | kh l => exact MP.same h hs
/-- memory, block by block -/
abbrev Hp := List (Nat × Cont)
structure Hp.at (H : Hp) (w : World) : Prop where
  all : ∀ x ∈ H, x.2.at w x.1
  apart : (H.map (·.1)).Nodup
theorem Hp.at.same {H : Hp} {w w' : World} (h : H.at w) (hs : ∀ b ∈ H.map (·.1), w'.heap[b]? = w.heap[b]?) : H.at w' :=
  ⟨fun x hx => Cont.at_same (h.all x hx) (hs x.1 (List.mem_map.2 ⟨x, hx, rfl⟩)), h.apart⟩
theorem Hp.at.lt {H : Hp} {w : World} (h : H.at w) : ∀ b ∈ H.map (·.1), b < w.heap.size := by
  intro b hb
  obtain ⟨x, hx, rfl⟩ := List.mem_map.1 hb
  exact Cont.at_lt (h.all x hx)
theorem Hp.at.below {H : Hp} {w w' : World} (h : H.at w) (hb : Below w.heap.size w w') : H.at w' := h.same fun b hm => hb.block b (h.lt b hm)
theorem Hp.at.perm {H H' : Hp} {w : World} (h : H.at w) (hp : H.Perm H') : H'.at w :=
  ⟨fun x hx => h.all x (hp.mem_iff.2 hx), (hp.map _).nodup_iff.1 h.apart⟩
/-- what one block holds is changed -/
theorem Hp.at.turn {A B : Hp} {b : Nat} {c c' : Cont} {w w' : World} (h : Hp.at (A ++ (b, c) :: B) w) (hg : w.grownBy w' (some b)) (hc : c'.at w' b) : Hp.at (A ++ (b, c') :: B) w' := by
  have hap := h.apart
  refine ⟨fun x hx => ?_, by simpa using hap⟩
  have hne : ∀ y ∈ A ++ B, y.1 ≠ b := by
    intro y hy e
    have hp : ((b, c) :: (A ++ B)).Perm (A ++ (b, c) :: B) := List.perm_middle.symm
    have h2 := ((hp.map (·.1)).nodup_iff).2 hap
    simp only [List.map_cons, List.nodup_cons] at h2
    exact h2.1 (List.mem_map.2 ⟨y, hy, e⟩)
  rcases List.mem_append.1 hx with hx | hx
  · have h1 := h.all x (List.mem_append.2 (.inl hx))
    exact Cont.at_same h1 (hg.block x.1 (Cont.at_lt h1) (by simpa using hne x (List.mem_append.2 (.inl hx))))
  · rcases List.mem_cons.1 hx with rfl | hx
    · exact hc
    · have h1 := h.all x (List.mem_append.2 (.inr (List.mem_cons_of_mem _ hx)))
      exact Cont.at_same h1 (hg.block x.1 (Cont.at_lt h1) (by simpa using hne x (List.mem_append.2 (.inr hx))))
/-- a new block -/
theorem Hp.at.cons {H : Hp} {b : Nat} {c : Cont} {w : World} (h : H.at w) (hc : c.at w b) (hn : b ∉ H.map (·.1)) : Hp.at ((b, c) :: H) w := by
  refine ⟨fun x hx => ?_, ?_⟩
  · rcases List.mem_cons.1 hx with rfl | hx
    · exact hc
    · exact h.all x hx
  · rw [List.map_cons, List.nodup_cons]
    exact ⟨hn, h.apart⟩
#print axioms Hp.at.turn
/-- what is kept but for the blocks of S -/
structure Keep (S : Nat → Prop) (w w' : World) : Prop where
  os : w'.os = w.os
  tape : w'.tape = w.tape
  output : w'.output = w.output
  size : w.heap.size ≤ w'.heap.size
  block : ∀ k, k < w.heap.size → ¬ S k → w'.heap[k]? = w.heap[k]?

theorem Keep.refl (S : Nat → Prop) (w : World) : Keep S w w := ⟨rfl, rfl, rfl, Nat.le_refl _, fun _ _ _ => rfl⟩
theorem Keep.trans {S T : Nat → Prop} {w w1 w2 : World} (h : Keep S w w1) (k : Keep T w1 w2) (hs : ∀ j, T j → j < w.heap.size → S j) : Keep S w w2 :=
  ⟨k.os.trans h.os, k.tape.trans h.tape, k.output.trans h.output, Nat.le_trans h.size k.size, fun j hj hn => (k.block j (Nat.lt_of_lt_of_le hj h.size) (fun ht => hn (hs j ht hj))).trans (h.block j hj hn)⟩
theorem Keep.grown {S : Nat → Prop} {w w' : World} {b : Nat} (h : w.grownBy w' (some b)) (hb : S b) : Keep S w w' := ⟨h.os, h.tape, h.output, h.size, fun k hk hn => h.block k hk (fun e => hn (by cases e; exact hb))⟩
theorem Keep.grownO {S : Nat → Prop} {w w' : World} {r : Option Nat} (h : w.grownBy w' r) (hb : ∀ b, r = some b → S b) : Keep S w w' := ⟨h.os, h.tape, h.output, h.size, fun k hk hn => h.block k hk (fun e => hn (hb k e.symm))⟩
theorem Keep.below {S : Nat → Prop} {w w' : World} (h : Below w.heap.size w w') : Keep S w w' := ⟨h.os, h.tape, h.output, h.size, fun k hk _ => h.block k hk⟩
theorem Keep.toBelow {S : Nat → Prop} {B : Nat} {w w' : World} (h : Keep S w w') (hB : B ≤ w.heap.size) (hs : ∀ k, S k → B ≤ k) : Below B w w' :=
  ⟨h.os, h.tape, h.output, h.size, fun k hk => h.block k (by omega) (fun e => by have := hs k e; omega)⟩
theorem Keep.mono {S T : Nat → Prop} {w w' : World} (h : Keep S w w') (hs : ∀ j, j < w.heap.size → S j → T j) : Keep T w w' := ⟨h.os, h.tape, h.output, h.size, fun k hk hn => h.block k hk (fun e => hn (hs k hk e))⟩
theorem Keep.none_below {w w' : World} (h : Keep (fun _ => False) w w') : Below w.heap.size w w' := ⟨h.os, h.tape, h.output, h.size, fun k hk => h.block k hk (fun e => e)⟩
theorem Keep.drew {S : Nat → Prop} {w w' : World} (h : Keep S w w') : Keep S w w'.drew := ⟨h.os, h.tape, h.output, h.size, h.block⟩
theorem Keep.blk {S : Nat → Prop} {w w' : World} (h : Keep S w w') {b : Nat} {t : TypeId} {L : List Value} (hb : Blk w b t L) (hn : ¬ S b) : Blk w' b t L := (h.block b hb.lt hn).trans hb

end Go.Proofs.Ytjcihaohpbmogaa.Oct
