/-
  Layer 20 (review): ReviewPasses: its drawn regions.
-/
import Derived.Test.YtaecigpjcbjcbaaRfp
namespace Go.Proofs.Ytaecigpjcbjcbaa.Oct
open Go.RowKit
set_option linter.unusedSimpArgs false
set_option linter.unusedVariables false

/-- a row under way -/
def Tr (W : World) (B : Nat) : Option (Value × List BA) → Prop
  | none => True
  | some (v, l) => W.ownsRow B 9 1 v l.length (strC l) ∧ ∃ q, v.ownBlock = some q
theorem Tr.same {W W' : World} {B : Nat} {x : Option (Value × List BA)} (h : Tr W B x) (hs : ∀ v l q, x = some (v, l) → v.ownBlock = some q → W'.heap[q]? = W.heap[q]?) : Tr W' B x := by
  cases x with
  | none => trivial
  | some y =>
    obtain ⟨v, l⟩ := y
    obtain ⟨h1, q, h2⟩ := h
    refine ⟨⟨h1.1, ?_⟩, q, h2⟩
    rcases h1.2 with hn | ⟨g, cap, cur, rfl, hB, hb, hr⟩
    · exact .inl hn
    · exact .inr ⟨g, cap, cur, rfl, hB, (hs _ l g rfl rfl).trans hb, hr⟩
theorem Tr.lt {W : World} {B : Nat} {v : Value} {l : List BA} (h : Tr W B (some (v, l))) {q : Nat} (hq : v.ownBlock = some q) : B ≤ q ∧ q < W.heap.size := by
  rcases h.1.2 with ⟨rfl, _⟩ | ⟨g, cap, cur, rfl, hB, hb, hr⟩
  · cases hq
  · cases hq; exact ⟨hB, lt_of_block hb⟩
/-- what the region keeps -/
structure R13 (A : World) (g : Nat) (p : Pp) (W : World) (x y : Option (Value × List BA)) : Prop where
  blk : Blk W g 43 p.cells
  keep : Keep (fun k => k = g) A W
  fst : Tr W A.heap.size x
  snd : Tr W A.heap.size y
  apart : ∀ v l v' l', x = some (v, l) → y = some (v', l') → v.ownBlock ≠ v'.ownBlock
theorem R13.swap {A : World} {g : Nat} {p : Pp} {W : World} {x y : Option (Value × List BA)} (h : R13 A g p W x y) : R13 A g p W y x :=
  ⟨h.blk, h.keep, h.snd, h.fst, fun v l v' l' h1 h2 e => h.apart v' l' v l h2 h1 e.symm⟩
theorem R13.bs {A : World} {g : Nat} {p : Pp} {W : World} {y : Option (Value × List BA)} (h : R13 A g p W none y) : R13 A g p (W.alloc (.cells #[] 9)) (some (.slice (some ⟨W.heap.size, 0, none⟩) 0 0, [])) y := by
  refine ⟨h.blk.alloc _, keep_al h.keep _, ⟨own_base (empty_row W 9 1) h.keep.size, _, rfl⟩, h.snd.same fun v l q hv hq => ?_, fun v l v' l' h1 h2 e => ?_⟩
  · subst hv
    exact Below.heap_alloc W _ q (h.snd.lt hq).2
  · cases h1
    subst h2
    have := (h.snd.lt (q := W.heap.size) e.symm).2
    omega
theorem R13.app {A : World} {g : Nat} {p : Pp} {W : World} {v : Value} {y : Option (Value × List BA)} (h : R13 A g p W (some (v, [])) y) {s : Sl} {l : List BA} (hs : Strs W s.a s.n l) (hn : l.length ≤ 1000) (hgl : g < A.heap.size) (ty : TypeId) :
    ∃ v' W', (Builtin.append_ #[40, 40] ty #[v, .slice s.a s.n s.c]).run Try.prog W = .ok v' W' ∧ R13 A g p W' (some (v', l)) y := by
  obtain ⟨i0, z0, k0, k1, k2, k3, k4⟩ := info9'
  obtain ⟨hown, q, hq⟩ := h.fst
  have hlen : l.length = s.n := hs.1
  by_cases hq0 : s.n = 0
  · have hl0 : l = [] := List.eq_nil_of_length_eq_zero (by omega)
    subst hl0
    obtain ⟨a', cap, hv, hnc, _⟩ := Ow.read (own_base hown (Nat.zero_le _))
    rw [hv]
    have hr := run_append_zero (P := Try.prog) W 40 ty 9 i0 Try.underlying40 k0 a' s.a 0 cap s.c (Nat.zero_le _)
    rw [hq0]
    refine ⟨_, W, hr, ?_⟩
    rw [show (List.length ([] : List BA)) = 0 from rfl] at hv
    rw [← hv]
    exact h
  · obtain ⟨g2, off, ha, hlt, hc⟩ := hs.2 (by omega)
    rw [ha]
    obtain ⟨v', W', hr, h2, h3, h4, h5⟩ := run_append_own_at (P := Try.prog) W A.heap.size 40 ty 9 i0 z0 1 i0.bytes Try.underlying40 k0 k1 k2 rfl k4 (by omega) v 0 [] (by simpa [strC] using hown) ⟨g2, off, none⟩ s.n s.c (strC l) (by simp [strC, hlen]) (fun j u hu => by
      rw [Addr.add_lit]
      simp only [strC, List.getElem?_map] at hu
      obtain ⟨t, ht, rfl⟩ := Option.map_eq_some_iff.1 hu
      exact hc j t ht) (strC_one _) (by unfold maxLen; omega) (by rw [k3]; omega) h.keep.size
    refine ⟨v', W', hr, ?_⟩
    rw [Nat.zero_add, List.nil_append, ← hlen] at h2
    have hvq := h.fst.lt hq
    have hv'q : ∃ q', v'.ownBlock = some q' := by
      rcases h5 with h5 | h5
      · exact ⟨q, by rw [h5, hq]⟩
      · exact ⟨_, h5⟩
    have hne : ∀ k, k < W.heap.size → k ≠ q → W'.heap[k]? = W.heap[k]? := fun k hk hk2 => h3.block k hk (by rw [hq]; simpa using hk2)
    refine ⟨(hne g h.blk.lt (by omega)).trans h.blk, ?_, ⟨h2, hv'q⟩, h.snd.same fun v2 l2 q2 hv2 hq2 => ?_, fun v1 l1 v2 l2 h1 h2' e => ?_⟩
    · exact h.keep.trans (T := fun k => k = q) (Keep.grownO h3 (fun b hb => by rw [hq] at hb; simpa using hb.symm)) (fun j hj hl => by omega)
    · subst hv2
      exact hne q2 (h.snd.lt hq2).2 (fun e => h.apart v [] v2 l2 rfl rfl (by rw [hq, hq2, e]))
    · cases h1
      subst h2'
      rcases h5 with h5 | h5
      · exact h.apart v [] v2 l2 rfl rfl (by rw [← h5]; exact e)
      · rw [h5] at e
        have := (h.snd.lt e.symm).2
        omega
theorem step_run {ops : Array Oper} {o : Oper} {a : Act} {w : World} {K : Act → World → Prop} {Q : Exit → Act → World → Prop} {E : Prop} (hw : Region.wanted o (yielded ops a.tmps) = true) (s x : Operand) (hop : o.op = .call { callee := .builtin .append, args := #[s, x], argTypes := #[40, 40] }) (v : Value) (t : Sl) (hs : a.eval s = v) (hx : a.eval x = .slice t.a t.n t.c) {v' : Value} {w' : World} (hrun : (Builtin.append_ #[40, 40] o.type #[v, .slice t.a t.n t.c]).run Try.prog w = .ok v' w')
    (hk : K (a.put o.dst v') w') : if Region.wanted o (yielded ops a.tmps) = true then Oper.wp Try.prog o a w K Q else E := by
  rw [if_pos hw]
  unfold Oper.wp execOp
  simp only [hop, resolve, invoke, builtin, Sem.run_bind, Sem.run_pure, Result.andThen_ok, List.map_toArray, List.map_cons, List.map_nil, hs, hx, hrun]
  exact hk
theorem step_bs0 {ops : Array Oper} {o : Oper} {a : Act} {w : World} {K : Act → World → Prop} {Q : Exit → Act → World → Prop} {E : Prop} (hw : Region.wanted o (yielded ops a.tmps) = true) (hop : o.op = .buildSlice 40 0 #[])
    (hk : K (a.put o.dst (.slice (some ⟨w.heap.size, 0, none⟩) 0 0)) (w.alloc (.cells #[] 9))) : if Region.wanted o (yielded ops a.tmps) = true then Oper.wp Try.prog o a w K Q else E := by
  rw [if_pos hw]
  unfold Oper.wp execOp
  simp [hop, run_bs40_0, Result.andThen]
  exact hk
theorem strs_keep {A W : World} {g : Nat} {s : Sl} {l : List BA} (h : Strs A s.a s.n l) (hk : Keep (fun k => k = g) A W) (hne : ∀ b off, s.a = some ⟨b, off, none⟩ → 0 < s.n → b ≠ g) : Strs W s.a s.n l := by
  refine ⟨h.1, fun hp => ?_⟩
  obtain ⟨b, off, e1, e2, e3⟩ := h.2 hp
  have hb := hk.block b e2 (hne b off e1 hp)
  exact ⟨b, off, e1, Nat.lt_of_lt_of_le e2 hk.size, fun i c hc => (World.cell?_of_block (a := ⟨b, off + i, none⟩) hb).trans (e3 i c hc)⟩
/-- what the region leaves -/
def Copied (A : World) (g : Nat) (p : Pp) (yes no : List BA) (sy sn : Sl) (V : World) : Prop :=
  Blk V g 43 ({ p with y := sy, n := sn } : Pp).cells ∧ Txt V sy yes ∧ Txt V sn no ∧ Keep (fun k => k = g) A V
end Go.Proofs.Ytaecigpjcbjcbaa.Oct
