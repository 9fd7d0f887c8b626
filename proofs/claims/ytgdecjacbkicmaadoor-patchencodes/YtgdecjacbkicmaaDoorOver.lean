/-
  A range over a function whose body may leave: what stands between two rounds is told by a place (a number); what is handed out is told by a list. Of no program.
-/
import Derived.RangeFuncNested
import Derived.RangeFuncBound
import Derived.RangeFuncCalls
import Derived.RangeFuncLeaves
import Derived.WalkKit
namespace Go.Proofs.YtgdecjacbkicmaaDoor.Oct
open Go.RowKit
set_option maxRecDepth 100000

theorem below_putObj (B : Nat) (W : World) (l : Nat) (o : Obj) (h : B ≤ l) : Below B W (W.putObj l o) :=
  ⟨rfl, rfl, rfl, by simp, fun _ hk => World.putObj_heap_other (by omega)⟩

/-- blocks from m₀ on lie as they lay -/
def Held (m₀ : Nat) (A B : World) : Prop := A.heap.size ≤ B.heap.size ∧ ∀ b, b < A.heap.size → m₀ ≤ b → B.heap[b]? = A.heap[b]?
theorem Held.mono {m₀ m₁ : Nat} {A B : World} (h : Held m₀ A B) (hm : m₀ ≤ m₁) : Held m₁ A B := ⟨h.1, fun b h1 h2 => h.2 b h1 (by omega)⟩
theorem Held.of_below {m₀ : Nat} {A B : World} (h : Below A.heap.size A B) : Held m₀ A B := ⟨h.size, fun b h1 _ => h.block b h1⟩
theorem Held.trans {m₀ : Nat} {A B C : World} (h : Held m₀ A B) (k : Held m₀ B C) : Held m₀ A C :=
  ⟨Nat.le_trans h.1 k.1, fun b h1 h2 => (k.2 b (Nat.lt_of_lt_of_le h1 h.1) h2).trans (h.2 b h1 h2)⟩
theorem Held.setCell {m₀ : Nat} (A : World) (b : Nat) (h : b < m₀) (v : Value) : Held m₀ A (A.setCell ⟨b, 0, none⟩ v) := by
  have hb := grownBy_setCell' A b v
  exact ⟨hb.size, fun k h1 h2 => hb.block k h1 (by simp; omega)⟩

/-- how the body of a round may be left -/
def leavePost (I : Nat → World → Prop) (Ix : Code → World → Prop) (D : Nat) (s : Nat) (W : World) : Exit → Act → World → Prop
  | .normal, _, W' => I (s + 1) W' ∧ Held D W W'
  | .ret, _, W' => Ix .ret W' ∧ Held D W W'
  | .exit id, _, W' => Ix (.exit id) W' ∧ Held D W W'
  | .goto t, _, W' => Ix (.goto t) W' ∧ Held D W W'
  | .panic _, _, _ => False
  | .outgrown, _, _ => False

theorem rangeLeave {P : Program} {n : Nat} {g : Operand} {ps : Array Tmp} {assign body : Code} {Q : Exit → Act → World → Prop} {a : Act} {w : World} {X : Type} {gf : Nat} {lb : Array Value}
    (hg : a.eval g = .func (.func gf) #[] lb) (eg : ∀ args w, (callFunc gf args).run P w = .ok (.enter gf args) w)
    (enc : Nat → X → Array Value) (hps : ∀ s x, (enc s x).size = ps.size) (xs : List X)
    (I : Nat → World → Prop) (Ix : Code → World → Prop) (hI : ∀ s A B, I s A → Below w.heap.size A B → I s B) (hIx : ∀ c A B, Ix c A → Below w.heap.size A B → Ix c B)
    (h0 : I 0 w) (a₁ : Nat → X → Act)
    (hassign : ∀ (s : Nat) (x : X) (W : World) (K : Act → World → Prop), K (a₁ s x) W →
      assign.wpIn (Fence.wide.inRound (w.heap.size + 1)) (n - 1 - 1) P (Exit.then K (fun _ _ _ => False)) { tmps := (ps.zip (enc s x)).foldl (fun t (p, v) => t.setIfInBounds p v) a.tmps, defers := [] } W)
    (hbody : ∀ (s : Nat) (x : X) (W : World), I s W → xs[s]? = some x → w.heap.size + 1 < W.heap.size → body.wpIn (Fence.wide.inRound (w.heap.size + 1)) (n - 1 - 1) P
      (leavePost I Ix w.heap.size s W) (a₁ s x) W)
    (hiter : ∀ (J : Nat → World → Prop) (Jx : World → Prop) (W : World), W.heap.size = w.heap.size + 2 → Below w.heap.size w W → (∀ s A B, J s A → Below (w.heap.size + 2) A B → J s B) → (∀ A B, Jx A → Below (w.heap.size + 2) A B → Jx B) → (∀ s A, J s A → I s A ∧ w.heap.size + 2 ≤ A.heap.size) →
      (∀ s x A, J s A → xs[s]? = some x → YieldAt Fence.wide (n - 1 - 1) P (w.heap.size + 1) (enc s x) A fun e B => Held (w.heap.size + 2) A B ∧ ((e = .returned (.bool true) ∧ J (s + 1) B) ∨ (e = .returned (.bool false) ∧ Jx B))) → J 0 W →
      CallsIn Fence.wide (n - 1) P gf (#[.func (.yield (w.heap.size + 1)) #[] #[]] ++ lb) W fun e B => (∃ v, e = .returned v) ∧ (J xs.length B ∨ Jx B))
    (hdone : ∀ (W : World), I xs.length W → W.heap[w.heap.size]? = some (.deferred (some [])) → Q .normal { a with defers := { target := .collected w.heap.size, args := #[] } :: a.defers } W)
    (hstop : ∀ (c : Code) (W : World), Ix c W → W.heap[w.heap.size]? = some (.deferred (some [])) → c.wpIn Fence.wide n P Q { a with defers := { target := .collected w.heap.size, args := #[] } :: a.defers } W) :
    (Code.rangeFunc g ps assign body).wpIn Fence.wide n P Q a w := by
  refine wpIn_rangeFunc fun fn hfn => ?_
  obtain ⟨rec, hrec⟩ : ∃ rec : LoopState → Option Code → Loop, rec = fun st pe => { state := st, pending := pe, fn, tmps := a.tmps, params := ps, assign, body, defers := w.heap.size } := ⟨_, rfl⟩
  obtain ⟨W1, hW1⟩ : ∃ W1, (w.alloc (.deferred (some []))).alloc (.loop (rec .ready none)) = W1 := ⟨_, rfl⟩
  have hS1 : W1.heap.size = w.heap.size + 2 := by rw [← hW1]; simp
  have hB1 : Below w.heap.size w W1 := by rw [← hW1]; exact ((Below.refl _ w).alloc (Nat.le_refl _) _).alloc (by simp) _
  have hL1 : W1.heap[w.heap.size + 1]? = some (.loop (rec .ready none)) := by
    have e := World.alloc_heap_new (w.alloc (.deferred (some []))) (.loop (rec .ready none))
    rw [World.size_alloc, hW1] at e
    exact e
  have hD1 : W1.heap[w.heap.size]? = some (.deferred (some [])) := by
    rw [← hW1]
    exact (Below.heap_alloc _ _ _ (by simp)).trans (World.alloc_heap_new w _)
  have hcall := hiter (fun s W => I s W ∧ W.heap[w.heap.size + 1]? = some (.loop (rec .ready none)) ∧ W.heap[w.heap.size]? = some (.deferred (some [])))
    (fun W => ∃ c, Ix c W ∧ W.heap[w.heap.size + 1]? = some (.loop (rec .done (some c))) ∧ W.heap[w.heap.size]? = some (.deferred (some []))) W1 hS1 hB1
    (fun s A B hs hb => ⟨hI s A B hs.1 (hb.mono (by omega)), (hb.block _ (by omega)).trans hs.2.1, (hb.block _ (by omega)).trans hs.2.2⟩)
    (fun A B hs hb => by obtain ⟨c, h1, h2, h3⟩ := hs; exact ⟨c, hIx c A B h1 (hb.mono (by omega)), (hb.block _ (by omega)).trans h2, (hb.block _ (by omega)).trans h3⟩)
    (fun s A hs => ⟨hs.1, (Array.getElem?_eq_some_iff.1 hs.2.1).1⟩) ?rounds ⟨hI 0 w W1 h0 hB1, hL1, hD1⟩
  case rounds =>
    rintro s x A ⟨hi, hl, hd⟩ hp
    have hlt : w.heap.size + 1 < A.heap.size := (Array.getElem?_eq_some_iff.1 hl).1
    have hy := run_yield (P := P) (args := enc s x) hl (by rw [hrec]; exact hps s x)
    rw [hrec] at hy
    refine ⟨fn, _, assign, body, hy, roundIn_of_wpIn hfn (hassign s x A _ ⟨_, run_beginRound hl (by rw [hrec]), ?_⟩)⟩
    have hb : (A.putObj (w.heap.size + 1) (.loop { rec .ready none with state := .busy })).heap[w.heap.size + 1]? = some (.loop { rec .ready none with state := .busy }) := World.putObj_heap_same hlt
    have hd2 : (A.putObj (w.heap.size + 1) (.loop { rec .ready none with state := .busy })).heap[w.heap.size]? = some (.deferred (some [])) := (World.putObj_heap_other (by omega)).trans hd
    have hi2 := hI s A _ hi (below_putObj w.heap.size A (w.heap.size + 1) (.loop { rec .ready none with state := .busy }) (by omega))
    refine wpIn_mono (hbody s x _ hi2 hp (by simpa using hlt)) ?_
    have fin : ∀ (jump : Option Code) (B : World), Held w.heap.size (A.putObj (w.heap.size + 1) (.loop { rec .ready none with state := .busy })) B →
        (Instr.endRound (w.heap.size + 1) jump).run P B = .ok (.bool jump.isNone) (B.putObj (w.heap.size + 1) (.loop (rec (if jump.isNone then .ready else .done) jump))) ∧
        (B.putObj (w.heap.size + 1) (.loop (rec (if jump.isNone then .ready else .done) jump))).heap[w.heap.size + 1]? = some (.loop (rec (if jump.isNone then .ready else .done) jump)) ∧
        (B.putObj (w.heap.size + 1) (.loop (rec (if jump.isNone then .ready else .done) jump))).heap[w.heap.size]? = some (.deferred (some [])) ∧
        Held (w.heap.size + 2) A (B.putObj (w.heap.size + 1) (.loop (rec (if jump.isNone then .ready else .done) jump))) := by
      intro jump B hh
      have hl3 := (hh.2 (w.heap.size + 1) (by simpa using hlt) (by omega)).trans hb
      have hd3 := (hh.2 w.heap.size (by simp; omega) (Nat.le_refl _)).trans hd2
      have hr := run_endRound (P := P) jump hl3
      rw [hrec] at hr hl3 ⊢
      refine ⟨hr, World.putObj_heap_same (Array.getElem?_eq_some_iff.1 hl3).1, (World.putObj_heap_other (by omega)).trans hd3, ?_, ?_⟩
      · have := hh.1; simp at this ⊢; exact this
      · intro b h1 h2
        rw [World.putObj_heap_other (by omega), hh.2 b (by simpa using h1) (by omega), World.putObj_heap_other (by omega)]
    rintro e a3 B hp
    cases e with
    | normal =>
      obtain ⟨hi3, hh⟩ := hp
      obtain ⟨hr, hl4, hk4, hh4⟩ := fin none B hh
      exact ⟨_, _, hr, hh4, .inl ⟨rfl, hI _ B _ hi3 (below_putObj _ B _ _ (by omega)), hl4, hk4⟩⟩
    | ret =>
      obtain ⟨hi3, hh⟩ := hp
      obtain ⟨hr, hl4, hk4, hh4⟩ := fin (some .ret) B hh
      exact ⟨_, _, hr, hh4, .inr ⟨rfl, .ret, hIx _ B _ hi3 (below_putObj _ B _ _ (by omega)), hl4, hk4⟩⟩
    | exit id =>
      obtain ⟨hi3, hh⟩ := hp
      obtain ⟨hr, hl4, hk4, hh4⟩ := fin (some (.exit id)) B hh
      exact ⟨_, _, hr, hh4, .inr ⟨rfl, .exit id, hIx _ B _ hi3 (below_putObj _ B _ _ (by omega)), hl4, hk4⟩⟩
    | goto t =>
      obtain ⟨hi3, hh⟩ := hp
      obtain ⟨hr, hl4, hk4, hh4⟩ := fin (some (.goto t)) B hh
      exact ⟨_, _, hr, hh4, .inr ⟨rfl, .goto t, hIx _ B _ hi3 (below_putObj _ B _ _ (by omega)), hl4, hk4⟩⟩
    | panic ch => exact hp.elim
    | outgrown => exact hp.elim
  refine ⟨w.heap.size + 1, [{ target := .collected w.heap.size, args := #[] }], W1, { target := .fn (.func gf) lb, args := #[.func (.yield (w.heap.size + 1)) #[] #[]] }, W1, gf, #[.func (.yield (w.heap.size + 1)) #[] #[]] ++ lb, W1, ?_, ?_, ?_, ?_, ?_, ?_⟩
  · rw [← hW1, hrec]; exact run_enterLoop_outer _ _ _ _ _
  · simp only [resolve, hg]
    simp [go_sem]
  · intro f' _; trivial
  · simp [invoke, go_sem, eg]
  · intro h; cases h
  · refine hcall.mono ?_
    rintro e B ⟨⟨v, rfl⟩, ⟨hi, hl, hd⟩ | ⟨c, hi, hl, hd⟩⟩
    · have he := run_endLoop (P := P) hl (by rw [hrec]; simp)
      refine ⟨none, _, by rw [hrec] at he; exact he, ?_⟩
      exact hdone _ (hI _ B _ hi (below_putObj _ B _ _ (by omega))) ((World.putObj_heap_other (by omega)).trans hd)
    · have he := run_endLoop (P := P) hl (by rw [hrec]; simp)
      refine ⟨some c, _, by rw [hrec] at he; exact he, ?_⟩
      exact hstop c _ (hIx c B _ hi (below_putObj _ B _ _ (by omega))) ((World.putObj_heap_other (by omega)).trans hd)
end Go.Proofs.YtgdecjacbkicmaaDoor.Oct
