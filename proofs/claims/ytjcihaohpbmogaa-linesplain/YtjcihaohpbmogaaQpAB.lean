/-
  Layer 11 (lines): vertices and hashes as keys of maps.
  Layer 11 (lines): maps by their keys and values; memory as a list of what its blocks hold.
  Layer 11 (lines): rows of vertices; a graph in memory.
-/
import Derived.Test.YtjcihaohpbmogaaQpAA
import Derived.Test.YtjcihaohpbmogaaQpAZ
import Derived.DeepKeys5
/- Layer 11 (lines): vertices and hashes as keys of maps. -/
namespace Go.Proofs.Ytjcihaohpbmogaa.Oct
open Go.RowKit Go.WideMaps Go.ChangeMaps Go.MapKept
set_option maxRecDepth 100000
set_option linter.unusedSimpArgs false

theorem arr32 : ArrKey Try.prog 32 5 32 := ⟨Try.underlying32, by kernel_rfl, by kernel_rfl, by kernel_rfl⟩
theorem law32 : KeyLaw Try.prog 32 := arr32.law
theorem size_types : Try.prog.types.size = 172 := by kernel_rfl
theorem law34 : KeyLaw Try.prog 34 := deep_law_gate (by kernel_rfl) (by rw [size_types]; decide) (by rw [size_types]; decide) (by kernel_rfl) (by kernel_rfl)
theorem wf_u8 (c : UInt8) : (Lit.int .u8 (c.toNat : Int)).wf = true := by
  have := c.toNat_lt
  simp [Lit.wf, IntKind.min, IntKind.max, IntKind.signed, IntKind.bits]; omega
theorem mapM_some {α β : Type} {f : α → Option β} : ∀ (l : List α), (∀ x ∈ l, ∃ y, f x = some y) → ∃ ys, l.mapM f = some ys
  | [], _ => ⟨[], rfl⟩
  | x :: l, h => by
    obtain ⟨y, hy⟩ := h x (by simp)
    obtain ⟨ys, hys⟩ := mapM_some l (fun z hz => h z (by simp [hz]))
    exact ⟨y :: ys, by simp [List.mapM_cons, hy, hys]⟩
theorem lits32 (d : Nat) (h : Hs) (hl : h.length = 32) : ∃ ls, Try.prog.keyLits (d + 2) 32 (U h) = some ls := by
  unfold Program.keyLits
  rw [Try.underlying32]
  simp only [U_length, hl, show Try.prog.cellsOf 32 = 32 by kernel_rfl, show Try.prog.cellsOf 5 = 1 by kernel_rfl, if_true, Nat.mul_one]
  obtain ⟨ys, hys⟩ := mapM_some (f := fun i => Try.prog.keyLits (d + 1) 5 (((U h).drop i).take 1)) (List.range 32) (by
    intro i hi
    rw [List.mem_range] at hi
    have e : ((U h).drop i).take 1 = [.int .u8 (h[i].toNat : Int)] := by
      rw [List.drop_eq_getElem_cons (by rw [U_length]; omega)]
      simp [U]
    rw [e]
    unfold Program.keyLits
    rw [Try.underlying5]
    simp [wf_u8])
  exact ⟨ys.flatten, by rw [hys]; rfl⟩
theorem has32 (h : Hs) (hl : h.length = 32) : ∃ l, keyOf Try.prog 32 (hv h) = some l := by
  have hk : Try.prog.keyType 32 = true := by kernel_rfl
  have hf : (hv h).formed Try.prog 32 = true := by
    simp [Value.formed, hv, Try.underlying32, U_length, hl, show Try.prog.cellsOf 32 = 32 by kernel_rfl]
  have hts : Try.prog.types.size + 1 = 171 + 2 := by kernel_rfl
  obtain ⟨ls, hls⟩ := lits32 171 h hl
  unfold keyOf
  rw [Try.underlying32]
  simp only [hk, hf, hts, Bool.and_self, if_true]
  have e : (hv h).cells.toList = U h := by simp [hv, Value.cells]
  rw [e, hls]
  exact ⟨_, rfl⟩
/-- a vertex that can be in memory -/
def Vk (v : Vx) : Prop := v.ok ∧ (Lit.int .i64 v.n).wf = true
def vv (v : Vx) : Value := .agg v.cells.toArray
theorem vv_inj {a b : Vx} (h : vv a = vv b) : a = b := by
  have e : a.cells = b.cells := by simpa [vv] using h
  unfold Vx.cells at e
  have h1 := List.append_inj_left' e rfl
  have h2 := List.append_inj_right' e rfl
  have h3 := U_inj h1
  simp at h2
  cases a; cases b; simp_all
theorem has34 (v : Vx) (hv : Vk v) : ∃ l, keyOf Try.prog 34 (vv v) = some l := by
  have hk : Try.prog.keyType 34 = true := by kernel_rfl
  have hf : (vv v).formed Try.prog 34 = true := by
    have := Vx.len hv.1
    obtain ⟨fs, hfs⟩ : ∃ fs, Try.prog.underlying 34 = some (.struct fs) := ⟨_, Try.underlying34⟩
    simp [Value.formed, vv, hfs, this, show Try.prog.cellsOf 34 = 33 by kernel_rfl]
  have hts : Try.prog.types.size + 1 = 171 + 2 := by kernel_rfl
  obtain ⟨ls, hls⟩ := lits32 170 v.h hv.1
  obtain ⟨fs, hfs⟩ : ∃ fs, Try.prog.underlying 34 = some (.struct fs) := ⟨_, Try.underlying34⟩
  have hff : fs.toList.map (fun f => (f.name, f.type, f.offset)) = [("Patch", 32, 0), ("Line", 3, 32)] := by
    have h := fields34
    unfold Program.fieldsOf at h
    rw [hfs] at h
    exact h
  have hbl : (fs.all fun x => x.name != "_") = true := by
    rw [← Array.all_toList]
    have : (fs.toList.all fun x => x.name != "_") = ((fs.toList.map (fun f => (f.name, f.type, f.offset))).all fun x => x.1 != "_") := by rw [List.all_map]; rfl
    rw [this, hff]
    rfl
  have e34 : ∀ cs : List Value, cs.length = 33 → Try.prog.keyLits (171 + 2) 34 cs = ([("Patch", 32, 0), ("Line", 3, 32)].mapM fun x : String × Nat × Nat => Try.prog.keyLits (170 + 2) x.2.1 ((cs.drop x.2.2).take (Try.prog.cellsOf x.2.1))).map List.flatten := fun cs hcs => by
    rw [← hff, List.mapM_map]
    show Try.prog.keyLits (172 + 1) 34 cs = _
    conv => lhs; unfold Program.keyLits
    rw [hfs]
    simp only [hcs, show Try.prog.cellsOf 34 = 33 by kernel_rfl, hbl, and_self, if_true]
    rfl
  unfold keyOf
  rw [Try.underlying34]
  simp only [hk, hf, hts, Bool.and_self, if_true]
  have e : (vv v).cells.toList = v.cells := by simp [vv, Value.cells]
  have e3 : (v.cells.drop 32).take 1 = [.int .i64 v.n] := by
    unfold Vx.cells
    rw [List.drop_append_of_le_length (by rw [U_length, hv.1]; exact Nat.le_refl _), List.drop_of_length_le (by rw [U_length, hv.1]; exact Nat.le_refl _)]
    rfl
  have e4 : Try.prog.keyLits (170 + 2) 3 [.int .i64 v.n] = some [.int .i64 v.n] := by
    unfold Program.keyLits
    rw [Try.underlying3]
    simp [hv.2]
  rw [e, e34 _ (Vx.len hv.1)]
  simp only [List.mapM_cons, List.mapM_nil, List.drop_zero, show Try.prog.cellsOf 32 = 32 by kernel_rfl, show Try.prog.cellsOf 3 = 1 by kernel_rfl, Vx.hash hv.1, hls, e3, e4]
  exact ⟨_, rfl⟩
instance mkV : MK Vx := ⟨34, vv, Vk, law34, has34, vv_inj⟩
instance mkH : MK Hs := ⟨32, hv, fun h => h.length = 32, law32, has32, hv_inj⟩
instance decV : DecidableEq Vx := fun a b => if h : a.h = b.h ∧ a.n = b.n then isTrue (by cases a; cases b; simp_all) else isFalse (fun e => h (by rw [e]; exact ⟨rfl, rfl⟩))
end Go.Proofs.Ytjcihaohpbmogaa.Oct

/- Layer 11 (lines): maps by their keys and values; memory as a list of what its blocks hold. -/
namespace Go.Proofs.Ytjcihaohpbmogaa.Oct
open Go.RowKit Go.WideMaps Go.ChangeMaps Go.MapKept
set_option linter.unusedSectionVars false
set_option maxRecDepth 100000

/-- a map's keys and values, in the order in which they came in -/
abbrev Kv (K : Type) := List (K × Value)
def kget {K : Type} [DecidableEq K] (l : Kv K) (h : K) : Option Value := (l.find? (fun x => x.1 == h)).map (·.2)
def khas {K : Type} [DecidableEq K] (l : Kv K) (h : K) : Bool := (kget l h).isSome
def kput {K : Type} [DecidableEq K] (l : Kv K) (h : K) (v : Value) : Kv K := if khas l h then l.map (fun x => if x.1 = h then (h, v) else x) else l ++ [(h, v)]
def kdel {K : Type} [DecidableEq K] (l : Kv K) (h : K) : Kv K := l.filter (fun x => x.1 != h)
/-- at block b lies a map with just these -/
def MP {K : Type} [MK K] (w : World) (b : Nat) (l : Kv K) : Prop := ∃ es, HM w b es ∧ es.map (fun e => (e.k, e.v)) = l

theorem erase_map {α β : Type} (f : α → β) : ∀ (l : List α) (j : Nat), (l.map f).eraseIdx j = (l.eraseIdx j).map f
  | [], _ => rfl
  | _ :: _, 0 => rfl
  | x :: l, j + 1 => by simp [erase_map f l j]
theorem kget_hlook {K : Type} [DecidableEq K] (es : List (Ent K)) (h : K) : kget (es.map (fun e => (e.k, e.v))) h = (hlook h es).map (·.v) := by
  unfold kget hlook
  rw [List.find?_map]
  cases hf : List.find? ((fun x : K × Value => x.1 == h) ∘ fun e : Ent K => (e.k, e.v)) es with
  | none =>
    rw [show List.find? (fun e : Ent K => e.k == h) es = none from hf]
    rfl
  | some e =>
    rw [show List.find? (fun e : Ent K => e.k == h) es = some e from hf]
    rfl
section
variable {K : Type} [MK K] [DecidableEq K] {w w' : World} {b : Nat} {l : Kv K} {h : K}
theorem MP.lt (hm : MP w b l) : b < w.heap.size := by obtain ⟨es, h1, _⟩ := hm; exact h1.lt
theorem MP.same (hm : MP w b l) (hs : w'.heap[b]? = w.heap[b]?) : MP w' b l := by obtain ⟨es, h1, h2⟩ := hm; exact ⟨es, h1.same hs, h2⟩
theorem MP.made (w : World) : MP (K := K) (w.alloc (.map #[] 0)) w.heap.size [] := ⟨[], HM.made w, rfl⟩
theorem MP.nodup (hm : MP w b l) : (l.map (·.1)).Nodup := by
  obtain ⟨es, ⟨clock, _, _, _, h4, _⟩, rfl⟩ := hm
  rw [List.map_map]
  exact h4
theorem MP.short (hm : MP w b l) : ∀ x ∈ l, MK.ok x.1 := by
  obtain ⟨es, ⟨clock, _, _, _, _, h5⟩, rfl⟩ := hm
  intro x hx
  obtain ⟨e, he, rfl⟩ := List.mem_map.1 hx
  exact h5 e he
theorem MP.look {t E : TypeId} (hm : MP w b l) (ht : Try.prog.underlying t = some (.map (MK.kt K) E)) (hl : MK.ok h) {z : Value} (hz : (zeroValue E).run Try.prog w = .ok z w) :
    (Instr.lookup t (.map (some b)) (MK.kv h) false).run Try.prog w = .ok ((kget l h).getD z) w := by
  obtain ⟨es, h1, rfl⟩ := hm
  rw [h1.look ht hl false hz, kget_hlook]
  rfl
theorem MP.look2 {t E : TypeId} (hm : MP w b l) (ht : Try.prog.underlying t = some (.map (MK.kt K) E)) (hl : MK.ok h) {z : Value} (hz : (zeroValue E).run Try.prog w = .ok z w) :
    (Instr.lookup t (.map (some b)) (MK.kv h) true).run Try.prog w = .ok (.tuple #[(kget l h).getD z, .bool (khas l h)]) w := by
  obtain ⟨es, h1, rfl⟩ := hm
  unfold khas
  rw [h1.look ht hl true hz, kget_hlook]
  cases hlook h es <;> rfl
theorem MP.len {t E : TypeId} (hm : MP w b l) (ht : Try.prog.underlying t = some (.map (MK.kt K) E)) (ty : TypeId) : (Builtin.len_ #[t] ty #[.map (some b)]).run Try.prog w = .ok (.int .i64 l.length) w := by
  obtain ⟨es, h1, rfl⟩ := hm
  rw [h1.len ht ty]; simp
theorem MP.put {t E : TypeId} (hm : MP w b l) (ht : Try.prog.underlying t = some (.map (MK.kt K) E)) (hl : MK.ok h) (v : Value) :
    ∃ w', (Instr.mapUpdate t (.map (some b)) (MK.kv h) v).run Try.prog w = .ok () w' ∧ MP w' b (kput l h v) ∧ w.grownBy w' (some b) ∧ w'.heap.size = w.heap.size := by
  obtain ⟨es, h1, rfl⟩ := hm
  obtain ⟨w', nb, r1, r2, r3, r4⟩ := h1.put ht hl v
  refine ⟨w', r1, ⟨_, r2, ?_⟩, r3, r4⟩
  unfold hputE kput khas
  rw [kget_hlook]
  cases hc : hlook h es with
  | none => simp
  | some e =>
    simp only [Option.isSome_some, Option.map_some, if_true, List.map_map]
    apply List.map_congr_left
    intro x _
    simp only [Function.comp]
    by_cases hx : x.k = h
    · simp [hx]
    · simp [hx]
theorem MP.del {t E : TypeId} (hm : MP w b l) (ht : Try.prog.underlying t = some (.map (MK.kt K) E)) (hl : MK.ok h) (ty : TypeId) :
    ∃ w', (Builtin.delete_ #[t, MK.kt K] ty #[.map (some b), MK.kv h]).run Try.prog w = .ok (.tuple #[]) w' ∧ MP w' b (kdel l h) ∧ w.grownBy w' (some b) ∧ w'.heap.size = w.heap.size := by
  obtain ⟨es, ⟨clock, hb, h2, h3, h4, h5⟩, rfl⟩ := hm
  obtain ⟨lt, hkey⟩ := MK.has h hl
  rcases run_find w hl h5 h4 with ⟨h6, h7⟩ | ⟨j, e, h6, h7, h8⟩
  · refine ⟨setBlock w b (.map (es.map Ent.me).toArray clock), ?_, ⟨es, ⟨clock, (MapKept.heap_set hb).1, h2, h3, h4, h5⟩, ?_⟩, grown_setBlock hb _, by simp [setBlock]⟩
    · simp [Builtin.delete_, run_underlying ht, MapKept.run_getObj_map hb, (MK.law (K := K)).check w _ hkey, h7, MapKept.run_setObj_map _ hb, Result.andThen, setBlock]
    · unfold kdel
      symm
      refine List.filter_eq_self.2 fun x hx => ?_
      obtain ⟨e, he, rfl⟩ := List.mem_map.1 hx
      have := hlook_none h6 e he
      simpa using this
  · have hj : j < es.length := (List.getElem?_eq_some_iff.1 h7).1
    have hej : es[j] = e := (List.getElem?_eq_some_iff.1 h7).2
    have hke := (hlook_some h6).2
    have hsub : ((es.map Ent.me).toArray.eraseIdxIfInBounds j) = ((es.eraseIdx j).map Ent.me).toArray := by
      apply Array.toList_inj.1
      unfold Array.eraseIdxIfInBounds
      rw [dif_pos (by simpa using hj)]
      simp [erase_map]
    refine ⟨setBlock w b (.map ((es.eraseIdx j).map Ent.me).toArray clock), ?_, ⟨es.eraseIdx j, ⟨clock, (MapKept.heap_set hb).1, fun x hx => h2 x (List.mem_of_mem_eraseIdx hx), ?_, ?_, fun x hx => h5 x (List.mem_of_mem_eraseIdx hx)⟩, ?_⟩, grown_setBlock hb _, by simp [setBlock]⟩
    · rw [← hsub]
      simp [Builtin.delete_, run_underlying ht, MapKept.run_getObj_map hb, (MK.law (K := K)).check w _ hkey, h8, MapKept.run_setObj_map _ hb, Result.andThen, setBlock]
    · exact List.Nodup.sublist ((List.eraseIdx_sublist es j).map _) h3
    · exact List.Nodup.sublist ((List.eraseIdx_sublist es j).map _) h4
    · unfold kdel
      rw [List.filter_map]
      refine congrArg (List.map (fun e : Ent K => (e.k, e.v))) ?_
      clear h2 h3 h5 hb hkey h8 hsub h6
      subst hke
      induction es generalizing j with
      | nil => simp at hj
      | cons x xs ih =>
        simp only [List.map_cons, List.nodup_cons] at h4
        cases j with
        | zero =>
          simp only [List.getElem_cons_zero] at hej
          subst hej
          rw [List.eraseIdx_zero, List.tail_cons, List.filter_cons, if_neg (by simp)]
          symm
          refine List.filter_eq_self.2 fun y hy => ?_
          have : y.k ≠ x.k := fun hc => h4.1 (List.mem_map.2 ⟨y, hy, hc⟩)
          simpa using this
        | succ i =>
          have hi : i < xs.length := by simpa using hj
          have hei : xs[i] = e := by simpa using hej
          have hne : x.k ≠ e.k := fun hc => h4.1 (List.mem_map.2 ⟨e, by rw [← hei]; exact List.getElem_mem hi, hc.symm⟩)
          rw [List.eraseIdx_cons_succ, List.filter_cons, if_pos (by simpa using hne), ih h4.2 i (by rw [List.getElem?_eq_getElem hi, hei]) hi hei]
end

/-- what a block holds -/
inductive Cont where
  | cells (t : TypeId) (L : List Value)
  | kv (l : Kv Vx)
  | kh (l : Kv Hs)
def Cont.at (c : Cont) (w : World) (b : Nat) : Prop := match c with
  | .cells t L => Blk w b t L
  | .kv l => MP w b l
  | .kh l => MP w b l
theorem Cont.at_lt {c : Cont} {w : World} {b : Nat} (h : c.at w b) : b < w.heap.size := by
  cases c with
  | cells t L => exact Blk.lt h
  | kv l => exact MP.lt h
  | kh l => exact MP.lt h
theorem Cont.at_same {c : Cont} {w w' : World} {b : Nat} (h : c.at w b) (hs : w'.heap[b]? = w.heap[b]?) : c.at w' b := by
  cases c with
  | cells t L => exact hs.trans h
  | kv l => exact MP.same h hs
  | kh l => exact MP.same h hs
/-- memory, block by block -/
abbrev Hp := List (Nat × Cont)
structure Hp.at (H : Hp) (w : World) : Prop where
  all : ∀ x ∈ H, x.2.at w x.1
  apart : (H.map (·.1)).Nodup
theorem Hp.at.same {H : Hp} {w w' : World} (h : H.at w) (hs : ∀ b ∈ H.map (·.1), w'.heap[b]? = w.heap[b]?) : H.at w' :=
  ⟨fun x hx => Cont.at_same (h.all x hx) (hs x.1 (List.mem_map.2 ⟨x, hx, rfl⟩)), h.apart⟩
theorem Hp.at.lt {H : Hp} {w : World} (h : H.at w) : ∀ b ∈ H.map (·.1), b < w.heap.size := by
  intro b hb
  obtain ⟨x, hx, rfl⟩ := List.mem_map.1 hb
  exact Cont.at_lt (h.all x hx)
theorem Hp.at.below {H : Hp} {w w' : World} (h : H.at w) (hb : Below w.heap.size w w') : H.at w' := h.same fun b hm => hb.block b (h.lt b hm)
theorem Hp.at.perm {H H' : Hp} {w : World} (h : H.at w) (hp : H.Perm H') : H'.at w :=
  ⟨fun x hx => h.all x (hp.mem_iff.2 hx), (hp.map _).nodup_iff.1 h.apart⟩
/-- what one block holds is changed -/
theorem Hp.at.turn {A B : Hp} {b : Nat} {c c' : Cont} {w w' : World} (h : Hp.at (A ++ (b, c) :: B) w) (hg : w.grownBy w' (some b)) (hc : c'.at w' b) : Hp.at (A ++ (b, c') :: B) w' := by
  have hap := h.apart
  refine ⟨fun x hx => ?_, by simpa using hap⟩
  have hne : ∀ y ∈ A ++ B, y.1 ≠ b := by
    intro y hy e
    have hp : ((b, c) :: (A ++ B)).Perm (A ++ (b, c) :: B) := List.perm_middle.symm
    have h2 := ((hp.map (·.1)).nodup_iff).2 hap
    simp only [List.map_cons, List.nodup_cons] at h2
    exact h2.1 (List.mem_map.2 ⟨y, hy, e⟩)
  rcases List.mem_append.1 hx with hx | hx
  · have h1 := h.all x (List.mem_append.2 (.inl hx))
    exact Cont.at_same h1 (hg.block x.1 (Cont.at_lt h1) (by simpa using hne x (List.mem_append.2 (.inl hx))))
  · rcases List.mem_cons.1 hx with rfl | hx
    · exact hc
    · have h1 := h.all x (List.mem_append.2 (.inr (List.mem_cons_of_mem _ hx)))
      exact Cont.at_same h1 (hg.block x.1 (Cont.at_lt h1) (by simpa using hne x (List.mem_append.2 (.inr hx))))
/-- a new block -/
theorem Hp.at.cons {H : Hp} {b : Nat} {c : Cont} {w : World} (h : H.at w) (hc : c.at w b) (hn : b ∉ H.map (·.1)) : Hp.at ((b, c) :: H) w := by
  refine ⟨fun x hx => ?_, ?_⟩
  · rcases List.mem_cons.1 hx with rfl | hx
    · exact hc
    · exact h.all x hx
  · rw [List.map_cons, List.nodup_cons]
    exact ⟨hn, h.apart⟩
/-- what is kept but for the blocks of S -/
structure Keep (S : Nat → Prop) (w w' : World) : Prop where
  os : w'.os = w.os
  tape : w'.tape = w.tape
  output : w'.output = w.output
  size : w.heap.size ≤ w'.heap.size
  block : ∀ k, k < w.heap.size → ¬ S k → w'.heap[k]? = w.heap[k]?

theorem Keep.refl (S : Nat → Prop) (w : World) : Keep S w w := ⟨rfl, rfl, rfl, Nat.le_refl _, fun _ _ _ => rfl⟩
theorem Keep.trans {S T : Nat → Prop} {w w1 w2 : World} (h : Keep S w w1) (k : Keep T w1 w2) (hs : ∀ j, T j → j < w.heap.size → S j) : Keep S w w2 :=
  ⟨k.os.trans h.os, k.tape.trans h.tape, k.output.trans h.output, Nat.le_trans h.size k.size, fun j hj hn => (k.block j (Nat.lt_of_lt_of_le hj h.size) (fun ht => hn (hs j ht hj))).trans (h.block j hj hn)⟩
theorem Keep.grown {S : Nat → Prop} {w w' : World} {b : Nat} (h : w.grownBy w' (some b)) (hb : S b) : Keep S w w' := ⟨h.os, h.tape, h.output, h.size, fun k hk hn => h.block k hk (fun e => hn (by cases e; exact hb))⟩
theorem Keep.grownO {S : Nat → Prop} {w w' : World} {r : Option Nat} (h : w.grownBy w' r) (hb : ∀ b, r = some b → S b) : Keep S w w' := ⟨h.os, h.tape, h.output, h.size, fun k hk hn => h.block k hk (fun e => hn (hb k e.symm))⟩
theorem Keep.below {S : Nat → Prop} {w w' : World} (h : Below w.heap.size w w') : Keep S w w' := ⟨h.os, h.tape, h.output, h.size, fun k hk _ => h.block k hk⟩
theorem Keep.toBelow {S : Nat → Prop} {B : Nat} {w w' : World} (h : Keep S w w') (hB : B ≤ w.heap.size) (hs : ∀ k, S k → B ≤ k) : Below B w w' :=
  ⟨h.os, h.tape, h.output, h.size, fun k hk => h.block k (by omega) (fun e => by have := hs k e; omega)⟩
theorem Keep.mono {S T : Nat → Prop} {w w' : World} (h : Keep S w w') (hs : ∀ j, j < w.heap.size → S j → T j) : Keep T w w' := ⟨h.os, h.tape, h.output, h.size, fun k hk hn => h.block k hk (fun e => hn (hs k hk e))⟩
theorem Keep.none_below {w w' : World} (h : Keep (fun _ => False) w w') : Below w.heap.size w w' := ⟨h.os, h.tape, h.output, h.size, fun k hk => h.block k hk (fun e => e)⟩
theorem Keep.drew {S : Nat → Prop} {w w' : World} (h : Keep S w w') : Keep S w w'.drew := ⟨h.os, h.tape, h.output, h.size, h.block⟩
theorem Keep.blk {S : Nat → Prop} {w w' : World} (h : Keep S w w') {b : Nat} {t : TypeId} {L : List Value} (hb : Blk w b t L) (hn : ¬ S b) : Blk w' b t L := (h.block b hb.lt hn).trans hb

end Go.Proofs.Ytjcihaohpbmogaa.Oct

/- Layer 11 (lines): rows of vertices; a graph in memory. -/
namespace Go.Proofs.Ytjcihaohpbmogaa.Oct
open Go.RowKit
set_option maxRecDepth 100000
set_option linter.unusedSimpArgs false
set_option linter.unusedVariables false
set_option linter.unusedSectionVars false

/-- a list of vertices that can be read -/
def VsR (w : World) (a : Option Addr) (n : Nat) (vs : List Vx) : Prop :=
  vs.length = n ∧ (∀ v ∈ vs, Vk v) ∧ (0 < n → ∃ g off, a = some ⟨g, off, none⟩ ∧ g < w.heap.size ∧ ∀ i v, vs[i]? = some v → w.rangeAt g (off + i * 33) v.cells)
theorem VsR.same {w w' : World} {a : Option Addr} {n : Nat} {vs : List Vx} (h : VsR w a n vs) (hsz : w.heap.size ≤ w'.heap.size) (hk : ∀ g off, a = some ⟨g, off, none⟩ → w'.heap[g]? = w.heap[g]?) : VsR w' a n vs := by
  refine ⟨h.1, h.2.1, fun hp => ?_⟩
  obtain ⟨g, off, e, h1, h2⟩ := h.2.2 hp
  exact ⟨g, off, e, by omega, fun i x hx => rangeAt_same (h2 i x hx) (hk g off e)⟩
theorem VsR.below {w w' : World} {a : Option Addr} {n : Nat} {vs : List Vx} (h : VsR w a n vs) (hb : Below w.heap.size w w') : VsR w' a n vs := by
  refine ⟨h.1, h.2.1, fun hp => ?_⟩
  obtain ⟨g, off, e, h1, h2⟩ := h.2.2 hp
  exact ⟨g, off, e, Nat.lt_of_lt_of_le h1 hb.size, fun i x hx => rangeAt_same (h2 i x hx) (hb.block g h1)⟩
theorem VsR.nil (w : World) (a : Option Addr) : VsR w a 0 [] := ⟨rfl, by simp, fun h => absurd h (by omega)⟩
theorem VsR.keep {S : Nat → Prop} {w w' : World} {a : Option Addr} {n : Nat} {vs : List Vx} (h : VsR w a n vs) (hk : Keep S w w') (hS : ∀ g off, a = some ⟨g, off, none⟩ → ¬ S g) : VsR w' a n vs := by
  refine ⟨h.1, h.2.1, fun hp => ?_⟩
  obtain ⟨g, off, e, h1, h2⟩ := h.2.2 hp
  exact ⟨g, off, e, Nat.lt_of_lt_of_le h1 hk.size, fun i x hx => rangeAt_same (h2 i x hx) (hk.block g h1 (hS g off e))⟩
/-- the cells of vertices, one behind the other -/
def FV (l : List Vx) : List Value := l.flatMap Vx.cells
theorem FV_len : ∀ (l : List Vx), (∀ v ∈ l, Vk v) → (FV l).length = l.length * 33
  | [], _ => rfl
  | v :: l, h => by
    have ih := FV_len l (fun x hx => h x (by simp [hx]))
    have h1 := Vx.len (h v (by simp)).1
    show (v.cells ++ FV l).length = _
    rw [List.length_append, h1, ih, List.length_cons]
    omega
theorem FV_one (l : List Vx) : ∀ x ∈ FV l, x.oneCell' = true := by
  intro x hx
  obtain ⟨v, _, h⟩ := List.mem_flatMap.1 hx
  exact Vx.one v x h
theorem FV_append (a b : List Vx) : FV (a ++ b) = FV a ++ FV b := List.flatMap_append
theorem FV_at : ∀ (l : List Vx), (∀ v ∈ l, Vk v) → ∀ (i : Nat) (v : Vx), l[i]? = some v → ∀ j x, v.cells[j]? = some x → (FV l)[i * 33 + j]? = some x
  | [], _, i, v, hi, _, _, _ => by simp at hi
  | y :: l, h, i, v, hi, j, x, hx => by
    have h1 := Vx.len (h y (by simp)).1
    show (y.cells ++ FV l)[i * 33 + j]? = _
    cases i with
    | zero =>
      simp at hi
      subst hi
      have := (List.getElem?_eq_some_iff.1 hx).1
      rw [Nat.zero_mul, Nat.zero_add, List.getElem?_append_left this]
      exact hx
    | succ i =>
      rw [List.getElem?_append_right (by rw [h1]; omega), h1, show (i + 1) * 33 + j - 33 = i * 33 + j by omega]
      exact FV_at l (fun z hz => h z (by simp [hz])) i v (by simpa using hi) j x hx
/-- a row of a block of vertices is read -/
theorem Blk.vs {w : World} {g : Nat} {vs : List Vx} {rest : List Value} (h : Blk w g 34 (FV vs ++ rest)) (hv : ∀ v ∈ vs, Vk v) : VsR w (some ⟨g, 0, none⟩) vs.length vs := by
  refine ⟨rfl, hv, fun _ => ⟨g, 0, rfl, h.lt, fun i v hi j x hx => ?_⟩⟩
  rw [Nat.zero_add]
  refine h.cell ?_
  have := FV_at vs hv i v hi j x hx
  rw [List.getElem?_append_left (List.getElem?_eq_some_iff.1 this).1]
  exact this
/-- what a line has -/
structure PL where
  v : Vx
  t : BA
  fr : List Vx
  down : Vx
  kills : List Hs
/-- and where it lies -/
structure Ln where
  p : PL
  blk : Nat
  rb : Nat
  cap : Nat
  rest : List Value
  kb : Option Nat
def Ln.cells (l : Ln) : List Value := .string l.p.t :: .slice (some ⟨l.rb, 0, none⟩) l.p.fr.length l.cap :: (l.p.down.cells ++ [.map l.kb])
def unitH (l : List Hs) : Kv Hs := l.map fun h => (h, .agg #[])
def killHp (k : Option Nat) (l : List Hs) : Hp := match k with
  | none => []
  | some k => [(k, .kh (unitH l))]
def Ln.hp (l : Ln) : Hp := (l.blk, .cells 86 l.cells) :: (l.rb, .cells 34 (FV l.p.fr ++ l.rest)) :: killHp l.kb l.p.kills
structure Gm where
  mb : Nat
  ls : List Ln
def linesKv (ls : List Ln) : Kv Vx := ls.map fun l => (l.p.v, .pointer (some ⟨l.blk, 0, none⟩))
def Gm.hp (G : Gm) (p : Nat) : Hp := (p, .cells 67 [.map (some G.mb)]) :: (G.mb, .kv (linesKv G.ls)) :: G.ls.flatMap Ln.hp
def Gm.bl (G : Gm) (p : Nat) : List Nat := (G.hp p).map (·.1)
def Gm.ps (G : Gm) : List PL := G.ls.map (·.p)
def Gm.keys (G : Gm) : List Vx := G.ls.map (·.p.v)
structure LnOk (l : Ln) : Prop where
  v : Vk l.p.v
  fr : ∀ u ∈ l.p.fr, Vk u
  down : Vk l.p.down
  ne : True
  row : (FV l.p.fr ++ l.rest).length = l.cap * 33
  cap : l.p.fr.length ≤ l.cap
  big : l.cap ≤ maxLen
  len : l.p.fr.length ≤ 100000
  no : l.kb = none → l.p.kills = []
/-- a graph stands at block p -/
structure GAt (w : World) (p : Nat) (G : Gm) : Prop where
  hp : (G.hp p).at w
  ok : ∀ l ∈ G.ls, LnOk l
  few : G.ls.length ≤ 512
/-- what a call leaves -/
def GAfter (w : World) (p : Nat) (G G' : Gm) (w' : World) : Prop :=
  GAt w' p G' ∧ (∀ k ∈ G'.bl p, k ∈ G.bl p ∨ w.heap.size ≤ k) ∧ Keep (fun k => k ∈ G.bl p) w w'
section
variable {w w' : World} {p : Nat} {G : Gm}
theorem GAt.blk (h : GAt w p G) : Blk w p 67 [.map (some G.mb)] := h.hp.all (p, .cells 67 _) (by simp [Gm.hp])
theorem GAt.mp (h : GAt w p G) : MP w G.mb (linesKv G.ls) := h.hp.all (G.mb, .kv _) (by simp [Gm.hp])
theorem GAt.ln (h : GAt w p G) {l : Ln} (hl : l ∈ G.ls) : Blk w l.blk 86 l.cells := h.hp.all (l.blk, .cells 86 _) (by
  simp only [Gm.hp, List.mem_cons, List.mem_flatMap]
  exact .inr (.inr ⟨l, hl, by simp [Ln.hp]⟩))
theorem GAt.row (h : GAt w p G) {l : Ln} (hl : l ∈ G.ls) : Blk w l.rb 34 (FV l.p.fr ++ l.rest) := h.hp.all (l.rb, .cells 34 _) (by
  simp only [Gm.hp, List.mem_cons, List.mem_flatMap]
  exact .inr (.inr ⟨l, hl, by simp [Ln.hp]⟩))
theorem GAt.kl (h : GAt w p G) {l : Ln} (hl : l ∈ G.ls) {k : Nat} (hk : l.kb = some k) : MP w k (unitH l.p.kills) := h.hp.all (k, .kh _) (by
  simp only [Gm.hp, List.mem_cons, List.mem_flatMap]
  exact .inr (.inr ⟨l, hl, by simp [Ln.hp, killHp, hk]⟩))
theorem GAt.below (h : GAt w p G) (hb : Below w.heap.size w w') : GAt w' p G := ⟨h.hp.below hb, h.ok, h.few⟩
theorem GAt.keep {S : Nat → Prop} (h : GAt w p G) (hk : Keep S w w') (hS : ∀ k ∈ G.bl p, ¬ S k) : GAt w' p G :=
  ⟨h.hp.same fun b hb => hk.block b (h.hp.lt b hb) (hS b hb), h.ok, h.few⟩
theorem GAfter.same (h : GAt w p G) (hb : Below w.heap.size w w') : GAfter w p G G w' := ⟨h.below hb, fun _ hk => .inl hk, Keep.below hb⟩
theorem GAfter.first {w1 : World} {G' : Gm} (hb : Below w.heap.size w w1) (h : GAfter w1 p G G' w') : GAfter w p G G' w' :=
  ⟨h.1, fun k hk => (h.2.1 k hk).imp id (fun e => Nat.le_trans hb.size e), (Keep.below hb).trans h.2.2 (fun _ hj _ => hj)⟩
theorem GAfter.then {w1 : World} {G' : Gm} (h : GAfter w p G G' w1) (hb : Below w1.heap.size w1 w') : GAfter w p G G' w' :=
  ⟨h.1.below hb, h.2.1, h.2.2.trans (Keep.below (S := fun k => k ∈ G.bl p) hb) (fun _ hj _ => hj)⟩
theorem GAfter.trans {w1 : World} {G1 G2 : Gm} (h : GAfter w p G G1 w1) (k : GAfter w1 p G1 G2 w') : GAfter w p G G2 w' :=
  ⟨k.1, fun j hj => by
    rcases k.2.1 j hj with e | e
    · exact h.2.1 j e
    · exact .inr (Nat.le_trans h.2.2.size e), h.2.2.trans k.2.2 (fun j hj hlt => (h.2.1 j hj).resolve_right (by omega))⟩
theorem GAt.nodup (h : GAt w p G) : G.keys.Nodup := by
  have := h.mp.nodup
  unfold linesKv at this
  rw [List.map_map] at this
  exact this
/-- a line by its vertex -/
def Gm.get (G : Gm) (v : Vx) : Option Ln := G.ls.find? (fun l => l.p.v == v)
def ptrOf (o : Option Ln) : Value := match o with
  | some l => .pointer (some ⟨l.blk, 0, none⟩)
  | none => .pointer none
theorem kget_lines (ls : List Ln) (v : Vx) : (kget (linesKv ls) v).getD (.pointer none) = ptrOf (ls.find? (fun l => l.p.v == v)) := by
  unfold kget linesKv
  rw [List.find?_map, Option.map_map]
  show (Option.map _ (List.find? (fun l : Ln => l.p.v == v) ls)).getD _ = _
  cases List.find? (fun l : Ln => l.p.v == v) ls <;> rfl
theorem get_mem {v : Vx} {l : Ln} (h : G.get v = some l) : l ∈ G.ls ∧ l.p.v = v := by
  refine ⟨List.mem_of_find?_eq_some h, ?_⟩
  have := List.find?_some h
  simpa using this
theorem get_none {v : Vx} (h : G.get v = none) : v ∉ G.keys := by
  intro hv
  obtain ⟨l, hl, rfl⟩ := List.mem_map.1 hv
  have := List.find?_eq_none.1 h l hl
  simp at this
theorem get_is (h : GAt w p G) {l : Ln} (hl : l ∈ G.ls) : G.get l.p.v = some l := by
  cases hg : G.get l.p.v with
  | none => exact absurd (List.mem_map.2 ⟨l, hl, rfl⟩) (get_none hg)
  | some x =>
    obtain ⟨h1, h2⟩ := get_mem hg
    congr 1
    have hn := h.nodup
    unfold Gm.keys at hn
    obtain ⟨i, hi, rfl⟩ := List.mem_iff_getElem.1 h1
    obtain ⟨j, hj, rfl⟩ := List.mem_iff_getElem.1 hl
    have e1 : (G.ls.map (·.p.v))[i]? = some (G.ls[i]).p.v := by rw [List.getElem?_map, List.getElem?_eq_getElem hi]; rfl
    have e2 : (G.ls.map (·.p.v))[j]? = some (G.ls[j]).p.v := by rw [List.getElem?_map, List.getElem?_eq_getElem hj]; rfl
    have := (List.getElem?_inj (by simpa using hi) hn).1 (e1.trans (by rw [h2, e2]))
    subst this; rfl
theorem get_some {v : Vx} : (G.get v).isSome = decide (v ∈ G.keys) := by
  cases hg : G.get v with
  | none => simp [get_none hg]
  | some l =>
    obtain ⟨h1, h2⟩ := get_mem hg
    have : v ∈ G.keys := List.mem_map.2 ⟨l, h1, h2⟩
    simp [this]
theorem zero71 (W : World) : (zeroValue 71).run Try.prog W = .ok (.pointer none) W := by kernel_rfl
/-- a lookup -/
theorem GAt.look (h : GAt w p G) {v : Vx} (hv : Vk v) : (Instr.lookup 65 (.map (some G.mb)) (.agg v.cells.toArray) false).run Try.prog w = .ok (ptrOf (G.get v)) w := by
  have := h.mp.look (t := 65) (E := 71) (h := v) Try.underlying65 hv (zero71 w)
  rw [kget_lines] at this
  exact this
theorem GAt.look2 (h : GAt w p G) {v : Vx} (hv : Vk v) : ∀ W : World, W.heap[G.mb]? = w.heap[G.mb]? → (Instr.lookup 65 (.map (some G.mb)) (.agg v.cells.toArray) false).run Try.prog W = .ok (ptrOf (G.get v)) W := fun W hW => by
  have := (h.mp.same hW).look (t := 65) (E := 71) (h := v) Try.underlying65 hv (zero71 W)
  rw [kget_lines] at this
  exact this
end
end Go.Proofs.Ytjcihaohpbmogaa.Oct
