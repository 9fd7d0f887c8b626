/-
  Layer 11 (lines): what changes of a graph leave of it in memory.
-/
import Derived.Test.YtjcihaohpbmogaaCha
namespace Go.Proofs.Ytjcihaohpbmogaa.Oct
open Go.RowKit
set_option maxRecDepth 100000
set_option linter.unusedSimpArgs false
set_option linter.unusedVariables false
set_option linter.unusedSectionVars false

def Ln.bl (l : Ln) : List Nat := l.blk :: l.rb :: (match l.kb with | none => [] | some k => [k])
theorem Ln.hp_bl (l : Ln) : l.hp.map (·.1) = l.bl := by
  unfold Ln.hp Ln.bl killHp
  cases l.kb <;> rfl
theorem Gm.bl_eq (G : Gm) (p : Nat) : G.bl p = p :: G.mb :: G.ls.flatMap Ln.bl := by
  unfold Gm.bl Gm.hp
  rw [List.map_cons, List.map_cons, List.map_flatMap]
  congr 2
  exact congrArg (fun f => List.flatMap f G.ls) (funext fun l => Ln.hp_bl l)
theorem Gm.bl_ln {G : Gm} {p k : Nat} {l : Ln} (hl : l ∈ G.ls) (hk : k ∈ l.bl) : k ∈ G.bl p := by
  rw [Gm.bl_eq]
  exact List.mem_cons_of_mem _ (List.mem_cons_of_mem _ (List.mem_flatMap.2 ⟨l, hl, hk⟩))
section
variable {w w' : World} {p : Nat} {G : Gm}
theorem GAt.nd (h : GAt w p G) : (G.bl p).Nodup := h.hp.apart
theorem GAt.lt (h : GAt w p G) : ∀ k ∈ G.bl p, k < w.heap.size := h.hp.lt
theorem GAt.mbp (h : GAt w p G) : G.mb ≠ p := by
  have := h.nd
  rw [Gm.bl_eq] at this
  simp only [List.nodup_cons, List.mem_cons, not_or] at this
  exact fun e => this.1.1 e.symm
theorem GAt.ne_ln (h : GAt w p G) {l : Ln} (hl : l ∈ G.ls) {k : Nat} (hk : k ∈ l.bl) : k ≠ p ∧ k ≠ G.mb := by
  have := h.nd
  rw [Gm.bl_eq] at this
  simp only [List.nodup_cons, List.mem_cons, not_or] at this
  have hm : k ∈ G.ls.flatMap Ln.bl := List.mem_flatMap.2 ⟨l, hl, hk⟩
  exact ⟨fun e => this.1.2 (e ▸ hm), fun e => this.2.1 (e ▸ hm)⟩
theorem flat_split (A B : List Ln) (l : Ln) : (A ++ l :: B).flatMap Ln.bl = A.flatMap Ln.bl ++ (l.bl ++ B.flatMap Ln.bl) := by
  rw [List.flatMap_append, List.flatMap_cons]
/-- the blocks of a line are apart from those of the others -/
theorem GAt.apart (h : GAt w p G) {A B : List Ln} {l : Ln} (hG : G.ls = A ++ l :: B) {k : Nat} (hk : k ∈ l.bl) : ∀ x ∈ A ++ B, k ∉ x.bl := by
  have := h.nd
  rw [Gm.bl_eq, hG, flat_split] at this
  simp only [List.nodup_cons] at this
  have h2 := this.2.2
  rw [List.nodup_append] at h2
  have h3 := h2.2.1
  rw [List.nodup_append] at h3
  intro x hx hkx
  rcases List.mem_append.1 hx with hx | hx
  · exact h2.2.2 k (List.mem_flatMap.2 ⟨x, hx, hkx⟩) k (List.mem_append_left _ hk) rfl
  · exact h3.2.2 k hk k (List.mem_flatMap.2 ⟨x, hx, hkx⟩) rfl
/-- a line is another one -/
theorem GAt.turn (h : GAt w p G) {A B : List Ln} {l l' : Ln} (hG : G.ls = A ++ l :: B) (hk : Keep (fun k => k ∈ l.bl) w w') (hv : l'.p.v = l.p.v) (hb : l'.blk = l.blk)
    (hfr : ∀ k ∈ l'.bl, k ∈ l.bl ∨ w.heap.size ≤ k) (hnd : l'.bl.Nodup) (hat : ∀ x ∈ l'.hp, x.2.at w' x.1) (hok : LnOk l') : GAfter w p G { G with ls := A ++ l' :: B } w' := by
  have hl : l ∈ G.ls := by rw [hG]; simp
  have hkv : linesKv (A ++ l' :: B) = linesKv G.ls := by
    rw [hG]
    unfold linesKv
    simp [hv, hb]
  refine ⟨⟨⟨?_, ?_⟩, ?_, ?_⟩, ?_, ?_⟩
  · intro x hx
    simp only [Gm.hp, List.mem_cons, List.mem_flatMap] at hx
    rcases hx with rfl | rfl | ⟨y, hy, hx⟩
    · exact (hk.block p h.blk.lt (fun e => (h.ne_ln hl e).1 rfl)).trans h.blk
    · show MP w' G.mb (linesKv (A ++ l' :: B))
      rw [hkv]
      exact h.mp.same (hk.block G.mb h.mp.lt (fun e => (h.ne_ln hl e).2 rfl))
    · have old : y ∈ A ++ B → x.2.at w' x.1 := fun hy => by
        have hyG : y ∈ G.ls := by rw [hG]; rcases List.mem_append.1 hy with e | e <;> simp [e]
        have hxy : x.1 ∈ y.bl := by rw [← Ln.hp_bl]; exact List.mem_map.2 ⟨x, hx, rfl⟩
        have hx0 : x.2.at w x.1 := h.hp.all x (by simp only [Gm.hp, List.mem_cons, List.mem_flatMap]; exact .inr (.inr ⟨y, hyG, hx⟩))
        exact Cont.at_same hx0 (hk.block x.1 (Cont.at_lt hx0) (fun e => h.apart hG e y hy hxy))
      rcases List.mem_append.1 hy with hy | hy
      · exact old (by simp [hy])
      · rcases List.mem_cons.1 hy with rfl | hy
        · exact hat x hx
        · exact old (by simp [hy])
  · show (Gm.bl { G with ls := A ++ l' :: B } p).Nodup
    have h0 := h.nd
    have hlt := h.lt
    rw [Gm.bl_eq] at h0 hlt ⊢
    rw [hG, flat_split] at h0 hlt
    rw [flat_split]
    simp only [List.nodup_cons, List.mem_cons, List.mem_append, not_or, List.nodup_append] at h0 ⊢
    simp only [List.mem_cons, List.mem_append] at hlt
    obtain ⟨⟨a1, a2, a3, a4⟩, ⟨b1, b2, b3⟩, c1, ⟨c2, c3, c4⟩, c5⟩ := h0
    have hp := hlt p (.inl rfl)
    have hm := hlt G.mb (.inr (.inl rfl))
    refine ⟨⟨a1, a2, fun e => (hfr _ e).elim a3 (fun e => by omega), a4⟩, ⟨b1, fun e => (hfr _ e).elim b2 (fun e => by omega), b3⟩, c1, ⟨hnd, c3, fun a ha b hb e => ?_⟩, fun a ha b hb e => ?_⟩
    · subst e
      rcases hfr a ha with e | e
      · exact c4 a e a hb rfl
      · have := hlt a (.inr (.inr (.inr (.inr hb))))
        omega
    · subst e
      rcases hb with hb | hb
      · rcases hfr a hb with e | e
        · exact c5 a ha a (.inl e) rfl
        · have := hlt a (.inr (.inr (.inl ha)))
          omega
      · exact c5 a ha a (.inr hb) rfl
  · intro y hy
    rcases List.mem_append.1 hy with hy | hy
    · exact h.ok y (by rw [hG]; simp [hy])
    · rcases List.mem_cons.1 hy with rfl | hy
      · exact hok
      · exact h.ok y (by rw [hG]; simp [hy])
  · have := h.few
    rw [hG] at this
    simpa using this
  · intro k hk2
    rw [Gm.bl_eq] at hk2 ⊢
    rw [hG, flat_split]
    rw [flat_split] at hk2
    simp only [List.mem_cons, List.mem_append] at hk2 ⊢
    rcases hk2 with e | e | e | e | e
    · exact .inl (.inl e)
    · exact .inl (.inr (.inl e))
    · exact .inl (.inr (.inr (.inl e)))
    · rcases hfr k e with e | e
      · exact .inl (.inr (.inr (.inr (.inl e))))
      · exact .inr e
    · exact .inl (.inr (.inr (.inr (.inr e))))
  · exact hk.mono fun j _ hj => Gm.bl_ln hl hj
/-- a line more -/
theorem GAt.push (h : GAt w p G) {l : Ln} (hk : Keep (fun k => k = G.mb) w w') (hm : MP w' G.mb (linesKv (G.ls ++ [l]))) (hfr : ∀ k ∈ l.bl, w.heap.size ≤ k) (hnd : l.bl.Nodup) (hat : ∀ x ∈ l.hp, x.2.at w' x.1) (hok : LnOk l) (hfew : G.ls.length < 512) :
    GAfter w p G { G with ls := G.ls ++ [l] } w' := by
  refine ⟨⟨⟨?_, ?_⟩, ?_, ?_⟩, ?_, ?_⟩
  · intro x hx
    simp only [Gm.hp, List.mem_cons, List.mem_flatMap] at hx
    rcases hx with rfl | rfl | ⟨y, hy, hx⟩
    · exact (hk.block p h.blk.lt (fun e => h.mbp e.symm)).trans h.blk
    · exact hm
    · rcases List.mem_append.1 hy with hy | hy
      · have hxy : x.1 ∈ y.bl := by rw [← Ln.hp_bl]; exact List.mem_map.2 ⟨x, hx, rfl⟩
        have hx0 : x.2.at w x.1 := h.hp.all x (by simp only [Gm.hp, List.mem_cons, List.mem_flatMap]; exact .inr (.inr ⟨y, hy, hx⟩))
        exact Cont.at_same hx0 (hk.block x.1 (Cont.at_lt hx0) (fun e => (h.ne_ln hy hxy).2 e))
      · rw [List.mem_singleton.1 hy] at hx
        exact hat x hx
  · show (Gm.bl { G with ls := G.ls ++ [l] } p).Nodup
    have h0 := h.nd
    have hlt := h.lt
    rw [Gm.bl_eq] at h0 hlt ⊢
    rw [List.flatMap_append, show [l].flatMap Ln.bl = l.bl by simp]
    simp only [List.nodup_cons, List.mem_cons, List.mem_append, not_or, List.nodup_append] at h0 ⊢
    simp only [List.mem_cons] at hlt
    have hp := hlt p (.inl rfl)
    have hm := hlt G.mb (.inr (.inl rfl))
    refine ⟨⟨h0.1.1, h0.1.2, fun e => by have := hfr p e; omega⟩, ⟨h0.2.1, fun e => by have := hfr _ e; omega⟩, h0.2.2, hnd, fun a ha b hb e => ?_⟩
    subst e
    have := hfr a hb
    have := hlt a (.inr (.inr ha))
    omega
  · intro y hy
    rcases List.mem_append.1 hy with hy | hy
    · exact h.ok y hy
    · rw [List.mem_singleton.1 hy]; exact hok
  · simp; omega
  · intro k hk2
    rw [Gm.bl_eq] at hk2 ⊢
    rw [List.flatMap_append, show [l].flatMap Ln.bl = l.bl by simp] at hk2
    simp only [List.mem_cons, List.mem_append] at hk2 ⊢
    rcases hk2 with e | e | e | e
    · exact .inl (.inl e)
    · exact .inl (.inr (.inl e))
    · exact .inl (.inr (.inr e))
    · exact .inr (hfr k e)
  · exact hk.mono fun j _ hj => by rw [Gm.bl_eq, hj]; simp
/-- a line less -/
theorem GAt.erase (h : GAt w p G) {A B : List Ln} {l : Ln} (hG : G.ls = A ++ l :: B) (hk : Keep (fun k => k = G.mb) w w') (hm : MP w' G.mb (linesKv (A ++ B))) : GAfter w p G { G with ls := A ++ B } w' := by
  have hin : ∀ y ∈ A ++ B, y ∈ G.ls := fun y hy => by rw [hG]; rcases List.mem_append.1 hy with e | e <;> simp [e]
  refine ⟨⟨⟨?_, ?_⟩, ?_, ?_⟩, ?_, ?_⟩
  · intro x hx
    simp only [Gm.hp, List.mem_cons, List.mem_flatMap] at hx
    rcases hx with rfl | rfl | ⟨y, hy, hx⟩
    · exact (hk.block p h.blk.lt (fun e => h.mbp e.symm)).trans h.blk
    · exact hm
    · have hxy : x.1 ∈ y.bl := by rw [← Ln.hp_bl]; exact List.mem_map.2 ⟨x, hx, rfl⟩
      have hx0 : x.2.at w x.1 := h.hp.all x (by simp only [Gm.hp, List.mem_cons, List.mem_flatMap]; exact .inr (.inr ⟨y, hin y hy, hx⟩))
      exact Cont.at_same hx0 (hk.block x.1 (Cont.at_lt hx0) (fun e => (h.ne_ln (hin y hy) hxy).2 e))
  · show (Gm.bl { G with ls := A ++ B } p).Nodup
    have h0 := h.nd
    rw [Gm.bl_eq] at h0 ⊢
    rw [hG, flat_split] at h0
    rw [List.flatMap_append]
    simp only [List.nodup_cons, List.mem_cons, List.mem_append, not_or, List.nodup_append] at h0 ⊢
    obtain ⟨⟨a1, a2, a3, a4⟩, ⟨b1, b2, b3⟩, c1, ⟨c2, c3, c4⟩, c5⟩ := h0
    exact ⟨⟨a1, a2, a4⟩, ⟨b1, b3⟩, c1, c3, fun a ha b hb => c5 a ha b (.inr hb)⟩
  · exact fun y hy => h.ok y (hin y hy)
  · have := h.few
    rw [hG] at this
    simp at this ⊢; omega
  · intro k hk2
    rw [Gm.bl_eq] at hk2 ⊢
    rw [hG, flat_split]
    rw [List.flatMap_append] at hk2
    simp only [List.mem_cons, List.mem_append] at hk2 ⊢
    rcases hk2 with e | e | e | e
    · exact .inl (.inl e)
    · exact .inl (.inr (.inl e))
    · exact .inl (.inr (.inr (.inl e)))
    · exact .inl (.inr (.inr (.inr (.inr e))))
  · exact hk.mono fun j _ hj => by rw [Gm.bl_eq, hj]; simp
theorem ls_split {l : Ln} (hl : l ∈ G.ls) : ∃ A B, G.ls = A ++ l :: B := List.append_of_mem hl
end
#print axioms GAt.turn
#print axioms GAt.push
#print axioms GAt.erase
end Go.Proofs.Ytjcihaohpbmogaa.Oct
