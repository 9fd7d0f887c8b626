/-
  Layer 5 (disk): the pending writes' row: what stands at a place; the zero value of a write.
-/
import Derived.Test.YtmhdldhplhffcaaSettle
namespace Go.Proofs.Ytmhdldhplhffcaa.Oct
open Go.RowKit Go.Maps

theorem wc_length {x : Nat × List UInt8} (h : x.2.length = 256) : (wc x).length = 257 := by simp [wc, U_length, h]
theorem wc_one (x : Nat × List UInt8) : ∀ v ∈ wc x, v.oneCell' = true := by
  intro v hv
  rcases List.mem_cons.1 hv with rfl | hv
  · rfl
  · exact U_one _ v hv
theorem size75 : (Try.prog.info? 75).map (·.size) = some 257 := by kernel_rfl
theorem str75 : ∃ fs, Try.prog.underlying 75 = some (.struct fs) := ⟨_, Try.underlying75⟩
theorem flat_get : ∀ (l : List (Nat × List UInt8)), (∀ x ∈ l, x.2.length = 256) → ∀ (t j : Nat) (x : Nat × List UInt8), l[t]? = some x → j < 257 → (l.flatMap wc)[t * 257 + j]? = (wc x)[j]?
  | [], _, t, j, x, h, _ => by simp at h
  | y :: l, hl, 0, j, x, h, hj => by
    simp at h
    subst h
    rw [List.flatMap_cons, List.getElem?_append_left (by rw [wc_length (hl y (List.mem_cons_self ..))]; omega)]
    simp
  | y :: l, hl, t + 1, j, x, h, hj => by
    simp at h
    have hw := wc_length (hl y (List.mem_cons_self ..))
    rw [List.flatMap_cons, List.getElem?_append_right (by rw [hw]; omega), hw, show (t + 1) * 257 + j - 257 = t * 257 + j by omega]
    exact flat_get l (fun z hz => hl z (List.mem_cons_of_mem _ hz)) t j x h hj

theorem row_range {w : World} {g n cap : Nat} {l : List (Nat × List UInt8)} (h : w.ownsRow 0 75 257 (.slice (some ⟨g, 0, none⟩) n cap) n (l.flatMap wc)) (hl : ∀ x ∈ l, x.2.length = 256) (hn : l.length = n) {t : Nat} {x : Nat × List UInt8} (hx : l[t]? = some x) :
    w.rangeAt g (t * 257) (wc x) := by
  rcases h.2 with ⟨e, _⟩ | ⟨g', cap', cur, e, _, hb, h1, h2, h3, h4⟩
  · cases e
  · cases e
    intro j v hj
    have hjl : j < 257 := by
      have := (List.getElem?_eq_some_iff.1 hj).1
      rwa [wc_length (hl x (List.mem_of_getElem? hx))] at this
    have htl : t < l.length := (List.getElem?_eq_some_iff.1 hx).1
    have hlt : t * 257 + j < n * 257 := by
      have : (t + 1) * 257 ≤ n * 257 := Nat.mul_le_mul_right _ (by omega)
      omega
    rw [cell_of_row w g _ _ 75 (0, 0) hb]
    have e2 : (cur.toList.take (n * 257))[t * 257 + j]? = some v := by rw [h4, flat_get l hl t j x hx hjl, hj]
    rw [List.getElem?_take, if_pos hlt] at e2
    simpa using e2
theorem row_shape {w : World} {v : Value} {l : List (Nat × List UInt8)} (h : w.ownsRow 0 75 257 v l.length (l.flatMap wc)) : (v = .slice none 0 0 ∧ l = []) ∨ ∃ g cap, v = .slice (some ⟨g, 0, none⟩) l.length cap ∧ g < w.heap.size ∧ l.length ≤ cap ∧ cap ≤ maxLen := by
  rcases h.2 with ⟨e, e2⟩ | ⟨g', cap', cur, e, _, hb, h1, h2, h3, h4⟩
  · exact .inl ⟨e, List.eq_nil_of_length_eq_zero e2⟩
  · exact .inr ⟨g', cap', e, lt_of_block hb, h1, h2⟩

theorem zero75 : ∃ Z : List Value, (∀ W, (zeroValue 75).run Try.prog W = .ok (.agg Z.toArray) W) ∧ Hid (Z.length = 257) := by
  have h : (Try.prog.info? 75).bind (·.zero) = some (.agg (Value.int .i64 0 :: List.replicate 256 (.int .u8 0)).toArray) := by kernel_rfl
  obtain ⟨Z, hZ⟩ : ∃ Z, Z = Value.int .i64 0 :: List.replicate 256 (.int .u8 0) := ⟨_, rfl⟩
  refine ⟨Z, fun W => ?_, show _ = _ by rw [hZ, List.length_cons, List.length_replicate]⟩
  rw [← hZ] at h
  clear hZ
  obtain ⟨i, hi, hz⟩ := Option.bind_eq_some_iff.1 h
  simp only [zeroValue, typeInfo]
  simp [hi, hz]
theorem copied75 {w : World} {b : Nat} {L cells : List Value} (hl : cells.length = 257) (hL : L.length = 257) (h : Blk w b 75 (L.take 0 ++ cells ++ L.drop (0 + cells.length))) : Blk w b 75 cells := by
  rw [List.drop_eq_nil_of_le (by omega)] at h
  simpa using h

/-- what the loops that settle keep: t of the writes are sure -/
structure Part (w : World) (d bs bl : Nat) (pv : Value) (nS : Nat) (D : Disk) (l : List (Nat × List UInt8)) (wr : World) : Prop where
  sure : ∃ DS, wr.ownsMap Try.prog 3 RS bs (nS + l.length) DS ∧ ∀ i : Nat, DS.atKey (kl i) (sd zeros) = sd (settled D.sure l i)
  keep : Keep (fun k => k = bs) w wr
theorem Part.more {w wr w' : World} {d bs bl : Nat} {pv : Value} {nS : Nat} {D : Disk} {l : List (Nat × List UInt8)} {x : Nat × List UInt8} (h : Part w d bs bl pv nS D l wr) (hw : Keep (fun k => k = bs) wr w') {w2 : World} (hs : Settled w' w2 bs (nS + l.length) (put (settled D.sure l) x)) : Part w d bs bl pv nS D (l ++ [x]) w2 := by
  obtain ⟨DS', h1, h2, h3⟩ := hs
  refine ⟨⟨DS', ?_, ?_⟩, (h.keep.trans hw (fun j hj _ => hj)).trans h3 (fun j hj _ => hj)⟩
  · rw [List.length_append]; exact h1
  · rw [settled_snoc]; exact h2

/-- behind them, and behind forget -/
theorem Part.emptied {w wr w' : World} {d bs bl : Nat} {pv : Value} {nS nL : Nat} {DS DL : DataW Unit} {D : Disk} {l : List (Nat × List UInt8)} (h : DkAt w d bs bl pv nS nL DS DL D) (hp : Part w d bs bl pv nS D l wr) (hl : l.length ≤ D.pend.length) (hlx : ∀ x ∈ l, x ∈ D.pend)
    (hB : Blk w' d 61 (dc { D with pend := [] } bs (.slice none 0 0) bl)) (hL : w'.ownsMap Try.prog 3 (plainElem Try.prog 3) bl 0 (.map [] : DataW Unit)) (hk : Keep (fun k => k = d ∨ k = bl) wr w') :
    ∃ DS', DkAt w' d bs bl (.slice none 0 0) (nS + l.length) 0 DS' (.map []) { D with sure := settled D.sure l, pend := [] } ∧ Keep (fun k => k = d ∨ k = bl ∨ k = bs) w w' := by
  obtain ⟨DS', h1, h2⟩ := hp.sure
  refine ⟨DS', ⟨hB, hk.owns h1 (fun e => e.elim (fun e => h.d_bs e.symm) h.ne), hL, h2, fun i => .inl ⟨rfl, fun x hx => by cases hx⟩, row_nil w', ?_, Nat.zero_le _, h.ne, ?_⟩, ?_⟩
  · have := h.roomS; simp; omega
  · obtain ⟨a, b, c, g, e⟩ := h.good
    exact ⟨a, b, settled_length (fun x hx => (g x (hlx x hx)).2) c, fun x hx => by simp at hx, e⟩
  · refine (hp.keep.mono (fun j _ e => .inr (.inr e))).trans hk (fun j hj _ => hj.elim .inl (fun e => .inr (.inl e)))
#print axioms row_range
#print axioms zero75
end Go.Proofs.Ytmhdldhplhffcaa.Oct
