/-
  Layer 19 (audit): entries, rows of them, and an entry that is handed back.
-/
import Derived.Test.YtmmpafaegmejlaaDoorORef
import Derived.Test.YtmmpafaegmejlaaDoorRefIs
import Derived.Laws.ResultCell
import Derived.Maps.AppendAt
import Derived.Deep.MidRow
namespace Go.Proofs.YtmmpafaegmejlaaDoor.Oct
open Go.RowKit Sha
set_option linter.unusedSimpArgs false
set_option linter.unusedVariables false

abbrev iv (n : Int) : Value := .int .i64 n
abbrev BA := ByteArray
abbrev e0 : BA := ⟨#[]⟩
theorem toList_d (s : BA) : s.toList = s.data.toList := ByteArray.toList_eq s
theorem ba_ext {s t : BA} (h : s.data.toList = t.data.toList) : s = t := by
  have : s.data = t.data := Array.toList_inj.1 h
  cases s; cases t; simpa using this
theorem below_al (w : World) (o : Obj) : Below w.heap.size w (w.alloc o) := (Below.refl _ w).alloc (Nat.le_refl _) o
theorem below_tr {w w1 w2 : World} (h : Below w.heap.size w w1) (k : Below w1.heap.size w1 w2) : Below w.heap.size w w2 := h.trans (k.mono h.size)
theorem below_gr {w w1 w2 : World} {g : Nat} (h : Below w.heap.size w w1) (k : w1.grownBy w2 (some g)) (hg : w.heap.size ≤ g) : Below w.heap.size w w2 := by
  obtain ⟨a1, a2, a3, a4, a5⟩ := k
  obtain ⟨b1, b2, b3, b4, b5⟩ := h
  exact ⟨a1.trans b1, a2.trans b2, a3.trans b3, Nat.le_trans b4 a4, fun k hk => (a5 k (Nat.lt_of_lt_of_le hk b4) (by simp; omega)).trans (b5 k hk)⟩
theorem rangeAt_same {w w' : World} {b o : Nat} {cs : List Value} (h : w.rangeAt b o cs) (hs : w'.heap[b]? = w.heap[b]?) : w'.rangeAt b o cs :=
  fun j v hj => (World.cell?_of_block (a := ⟨b, o + j, none⟩) hs).trans (h j v hj)
theorem Blk.range0 {w : World} {b : Nat} {t : TypeId} {L : List Value} (h : Blk w b t L) : w.rangeAt b 0 L := fun j v hj => by rw [Nat.zero_add]; exact h.cell hj
/-- an entry -/
structure En where
  seq : Int
  tick : Int
  who : BA
  what : BA
  prev : List UInt8
def En.cells (e : En) : List Value := iv e.seq :: iv e.tick :: .string e.who :: .string e.what :: U e.prev
def En.ok (e : En) : Prop := e.prev.length = 32 ∧ e.seq ≤ 9223372036854775807 ∧ e.tick ≤ 9223372036854775807 ∧ e.who.size ≤ 140737488355328 ∧ e.what.size ≤ 140737488355328
theorem En.len {e : En} (h : e.ok) : e.cells.length = 36 := by unfold En.cells; simp [U_length, h.1]
theorem En.one (e : En) : ∀ v ∈ e.cells, v.oneCell' = true := by
  intro v hv
  unfold En.cells at hv
  simp only [List.mem_cons] at hv
  rcases hv with rfl | rfl | rfl | rfl | hv
  · rfl
  · rfl
  · rfl
  · rfl
  · exact U_one _ v hv
/-- the empty entry -/
def zE : En := ⟨0, 0, e0, e0, List.replicate 32 0⟩
theorem zE_ok : zE.ok := by
  refine ⟨by simp [zE], by decide, by decide, by decide, by decide⟩
theorem size37 : (Tryd.prog.info? 37).map (·.size) = some 36 := by kernel_rfl
theorem info37 {e : En} (h : e.ok) : (Tryd.prog.info? 37).map (·.size) = some e.cells.length := by rw [En.len h]; exact size37
theorem size35 : (Tryd.prog.info? 35).map (·.size) = some 32 := by kernel_rfl
theorem built37 : Tryd.prog.built 37 [] = some zE.cells.toArray := by kernel_rfl
theorem zero37 : ∃ Z : List Value, (∀ W, (zeroValue 37).run Tryd.prog W = .ok (.agg Z.toArray) W) ∧ Hid (Z = zE.cells) := ⟨zE.cells, fun W => by kernel_rfl, rfl⟩
theorem zero35 : ∃ Z : List Value, (∀ W, (zeroValue 35).run Tryd.prog W = .ok (.agg Z.toArray) W) ∧ Hid (Z = zb 32) := ⟨zb 32, fun W => by kernel_rfl, rfl⟩
theorem ret_c {R : Ending → World → Prop} {fn : Func} {pt : Tmp} {ty : TypeId} {a : Act} {w : World} {g : Nat} {X : List Value} {d : TypeDesc} (hr : fn.results = #[.cell pt ty]) (hd : a.defers = []) (hp : a.tmps.getD pt undef = .pointer (some ⟨g, 0, none⟩))
    (hb : Blk w g ty X) (hu : Tryd.prog.underlying ty = some d) (hrow : d.isRow = true) (hi : (Tryd.prog.info? ty).map (·.size) = some X.length) (hR : R (.returned (.agg X.toArray)) w) : bodyPost Tryd.prog fn R .ret a w := by
  have hl := run_loadVar_mid (P := Tryd.prog) w g 0 ty X _ hb.range0 hu hrow hi
  refine bodyPost_ret (v := .agg X.toArray) ?_ hd hR
  simp only [results, hr]
  simp [Sem.run_bind, Array.getD] at hp ⊢
  simp [hp, asAddr, hl, Result.andThen]
theorem ret_cu {R : Ending → World → Prop} {fn : Func} {pt u : Tmp} {ty : TypeId} {a : Act} {w : World} {g : Nat} {X : List Value} {d : TypeDesc} (hr : fn.results = #[.cell pt ty, .tmp u]) (hd : a.defers = []) (hp : a.tmps.getD pt undef = .pointer (some ⟨g, 0, none⟩))
    (hb : Blk w g ty X) (hu : Tryd.prog.underlying ty = some d) (hrow : d.isRow = true) (hi : (Tryd.prog.info? ty).map (·.size) = some X.length) (hR : R (.returned (.tuple #[.agg X.toArray, a.tmps.getD u undef])) w) : bodyPost Tryd.prog fn R .ret a w := by
  have hl := run_loadVar_mid (P := Tryd.prog) w g 0 ty X _ hb.range0 hu hrow hi
  refine bodyPost_ret (v := .tuple #[.agg X.toArray, a.tmps.getD u undef]) ?_ hd hR
  rw [results_cell_tmp hr, hp]
  simp [asAddr, hl, Result.andThen]
theorem blk_all {w : World} {b : Nat} {t : TypeId} {L cs : List Value} (h : Blk w b t (L.take 0 ++ cs ++ L.drop (0 + cs.length))) (hl : L.length = cs.length) : Blk w b t cs := by
  rw [List.take_zero, List.nil_append, List.drop_of_length_le (by omega), List.append_nil] at h
  exact h
/-- many entries as cells -/
def cellsE (l : List En) : List Value := l.flatMap En.cells
/-- entries that can be read -/
def EsR (w : World) (v : Value) (l : List En) : Prop :=
  (∀ e ∈ l, e.ok) ∧ ∃ a cap, v = .slice a l.length cap ∧ l.length ≤ cap ∧ cap ≤ maxLen ∧ (0 < l.length → ∃ b off, a = some ⟨b, off, none⟩ ∧ b < w.heap.size ∧ ∀ i e, l[i]? = some e → w.rangeAt b (off + i * 36) e.cells)
theorem EsR.below {w w' : World} {v : Value} {l : List En} (h : EsR w v l) (hb : Below w.heap.size w w') : EsR w' v l := by
  obtain ⟨h1, a, cap, h2, h3, h4, h5⟩ := h
  refine ⟨h1, a, cap, h2, h3, h4, fun hp => ?_⟩
  obtain ⟨b, off, e1, e2, e3⟩ := h5 hp
  exact ⟨b, off, e1, Nat.lt_of_lt_of_le e2 hb.size, fun i e he => rangeAt_same (e3 i e he) (hb.block b e2)⟩
theorem EsR.nil (w : World) : EsR w (.slice none 0 0) [] := ⟨by simp, none, 0, rfl, Nat.le_refl _, by unfold maxLen; omega, fun h => absurd h (by simp)⟩
/-- a chain in memory -/
def En.sz (e : En) : Prop := e.who.size + e.what.size ≤ 400000000
def Ch (w : World) (c : Nat) (l : List En) : Prop := ∃ v, Blk w c 58 [v] ∧ EsR w v l ∧ l.length ≤ 1000000 ∧ ∀ e ∈ l, e.sz
theorem Ch.below {w w' : World} {c : Nat} {l : List En} (h : Ch w c l) (hb : Below w.heap.size w w') : Ch w' c l := by
  obtain ⟨v, h1, h2, h3⟩ := h
  exact ⟨v, h1.below hb h1.lt, h2.below hb, h3⟩
/-- the last entry -/
def lastE (l : List En) : En := l.getLast?.getD zE
/-- what an entry's digest is of -/
def dgB (e : En) : List UInt8 := enc (max e.seq 0).toNat ++ enc (max e.tick 0).toNat ++ (enc e.who.size ++ e.who.data.toList) ++ (enc e.what.size ++ e.what.data.toList) ++ e.prev
def dgE (e : En) : List UInt8 := sum (dgB e)
theorem dgE_len (e : En) : (dgE e).length = 32 := sum_length _
def hdE (l : List En) : List UInt8 := if l = [] then List.replicate 32 0 else dgE (lastE l)
theorem hdE_len (l : List En) : (hdE l).length = 32 := by
  unfold hdE
  split
  · simp
  · exact dgE_len _
#print axioms ret_cu
end Go.Proofs.YtmmpafaegmejlaaDoor.Oct
