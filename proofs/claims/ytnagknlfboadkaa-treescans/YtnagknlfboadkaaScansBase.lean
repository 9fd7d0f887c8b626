/-
  Layer 7 (tree): what stands between two rounds of TreeScans.
-/
import Derived.Test.YtnagknlfboadkaaWScanAll
import Derived.Test.YtnagknlfboadkaaPlkIs
import Derived.Test.YtnagknlfboadkaaMaps
namespace Go.Proofs.Ytnagknlfboadkaa.Oct
open Go.RowKit

theorem Kept.trans {A0 A B : World} (h : Kept A0 A) (k : Kept A B) : Kept A0 B := by
  intro b e he hr
  have h1 := h b e he hr
  exact (k b e he (hr.same h1)).trans h1
theorem Kept.oth {A B : World} {x : Nat} (hg : A.grownBy B (some x)) (ho : Oth A x) : Kept A B := by
  intro b e he hr
  exact hg.block b hr.lt (by have := ho.ne hr he; simpa using this)
theorem Kept.wid {D : Nat} {A B : World} (h : Wid.BelowR D A B) : Kept A B := by
  intro b e _ hr
  obtain ⟨cs, fr, hc⟩ := hr
  exact h.rows b (Array.getElem?_eq_some_iff.1 hc).1 ⟨cs, e, fr, hc⟩
theorem Lies.fix {w w' : World} (hk : Kept w w') : ∀ {d : Nat} {t : T d} {nd : Nat}, Lies w d t nd → Lies w' d t nd
  | 0, _, _, h => by
    obtain ⟨a, n, cap, h1, h2⟩ := h
    exact ⟨a, n, cap, h1.fix hk, h2⟩
  | d + 1, _, _, h => by
    obtain ⟨a, n, cap, a', n', cap', bs, h1, h2, h3, h4, h5, h6⟩ := h
    exact ⟨a, n, cap, a', n', cap', bs, h1.fix hk, h2, h3.fix hk, h4, h5, fun i k b' hi hb' => Lies.fix hk (h6 i k b' hi hb')⟩
theorem Tr.fix {A B : World} {m : Nat} {L : List Pr} (h : Tr A m L) (hk : Kept A B) (hm : B.heap[m]? = A.heap[m]?) : Tr B m L := by
  rcases h with ⟨h1, h2⟩ | ⟨d, t, nd, h1, h2, h3⟩
  · exact .inl ⟨hm.trans h1, h2⟩
  · exact .inr ⟨d, t, nd, hm.trans h1, h2.fix hk, h3⟩
theorem Tr.hdr {A : World} {m : Nat} {L : List Pr} (h : Tr A m L) : ∃ C, A.heap[m]? = some (.cells C 48) := by
  obtain ⟨p, h1⟩ := h.mp
  exact ⟨_, h1⟩
/-- the boxes of TreeScans, and what it reads -/
structure SB (w A0 : World) (p : Option Addr) (br bm bw bF m : Nat) (aw : Option Addr) (nw cw : Nat) (key : ByteArray) (stop : Int) (ys : List Pr) (A : World) : Prop where
  be : Below w.heap.size w A
  st : A.heap[w.heap.size]? = some (.cells #[.int .i64 stop] 3)
  rs : A.heap[br]? = some (.cells #[.bool false] 4)
  mb : A.heap[bm]? = some (.cells #[.pointer (some ⟨m, 0, none⟩)] 25)
  wt : A.heap[bw]? = some (.cells #[.slice aw nw cw] 27)
  rd : RdP A aw nw ys
  fr : A.heap[bF]? = some (.cells #[.string key] 9)
  un : A.heap[bF + 1]? = some (.cells #[.string ⟨#[]⟩] 9)
  ro : A.heap[bF + 2]? = some (.cells #[.pointer p] 46)
  kp : Kept A0 A
section
variable {w A0 : World} {p : Option Addr} {br bm bw bF m : Nat} {aw : Option Addr} {nw cw : Nat} {key : ByteArray} {stop : Int} {ys : List Pr} {A B : World}
theorem SB.keep (h : SB w A0 p br bm bw bF m aw nw cw key stop ys A) (hb : Below w.heap.size A B) (hk : Kept A B) (hs : ∀ b, b = w.heap.size ∨ b = br ∨ b = bm ∨ b = bw ∨ b = bF ∨ b = bF + 1 ∨ b = bF + 2 → B.heap[b]? = A.heap[b]?) : SB w A0 p br bm bw bF m aw nw cw key stop ys B :=
  ⟨h.be.trans hb, (hs _ (by simp)).trans h.st, (hs _ (by simp)).trans h.rs, (hs _ (by simp)).trans h.mb, (hs _ (by simp)).trans h.wt, h.rd.fix hk, (hs _ (by simp)).trans h.fr, (hs _ (by simp)).trans h.un, (hs _ (by simp)).trans h.ro, h.kp.trans hk⟩
theorem SB.lt (h : SB w A0 p br bm bw bF m aw nw cw key stop ys A) {b : Nat} (hb : b = w.heap.size ∨ b = br ∨ b = bm ∨ b = bw ∨ b = bF ∨ b = bF + 1 ∨ b = bF + 2) : b < A.heap.size ∧ Wid.CellsAt A b := by
  have key : ∀ {b : Nat} {cs : Array Value} {t : TypeId}, A.heap[b]? = some (.cells cs t) → b < A.heap.size ∧ Wid.CellsAt A b := fun e => ⟨(Array.getElem?_eq_some_iff.1 e).1, _, _, _, e⟩
  rcases hb with rfl | rfl | rfl | rfl | rfl | rfl | rfl
  · exact key h.st
  · exact key h.rs
  · exact key h.mb
  · exact key h.wt
  · exact key h.fr
  · exact key h.un
  · exact key h.ro
theorem SB.wid {D : Nat} (h : SB w A0 p br bm bw bF m aw nw cw key stop ys A) (hb : Wid.BelowR D A B) (hD : w.heap.size ≤ D) : SB w A0 p br bm bw bF m aw nw cw key stop ys B :=
  h.keep (hb.below.mono hD) (Kept.wid hb) fun b hx => hb.rows b (h.lt hx).1 (h.lt hx).2
theorem SB.grown {x : Nat} (h : SB w A0 p br bm bw bF m aw nw cw key stop ys A) (hg : A.grownBy B (some x)) (ho : Oth A x) (hw : w.heap.size ≤ x) (hx : x ≠ w.heap.size ∧ x ≠ br ∧ x ≠ bm ∧ x ≠ bw ∧ x ≠ bF ∧ x ≠ bF + 1 ∧ x ≠ bF + 2) : SB w A0 p br bm bw bF m aw nw cw key stop ys B := by
  refine h.keep ⟨hg.os, hg.tape, hg.output, hg.size, fun k hk => hg.block k (by have := h.be.size; omega) (by simp; omega)⟩ (Kept.oth hg ho) fun b hb => hg.block b (h.lt hb).1 ?_
  simp only [ne_eq, Option.some.injEq]
  omega
end
theorem Oth.box {A : World} {b : Nat} {v : Value} {t : TypeId} (h : A.heap[b]? = some (.cells #[v] t)) (h1 : t ≠ 40) (h2 : t ≠ 46) (h3 : t ≠ 67) : Oth A b := ⟨_, _, _, h, h1, h2, h3⟩
theorem Held.grown {D x : Nat} {A B : World} (hg : A.grownBy B (some x)) (hx : x < D) : Held D A B := ⟨hg.size, fun b h1 h2 _ => hg.block b h1 (by simp; omega)⟩
theorem results_four {tm : Array Value} {W : World} {r : Nat} (h : tm[6]? = some (.pointer (some ⟨r, 0, none⟩))) (hc : W.cell? ⟨r, 0, none⟩ = some (.bool true)) : (results Try.f4 tm).run Try.prog W = .ok (.bool true) W := by
  have hr : Try.f4.results = #[.cell 6 4] := rfl
  have h' : tm.getD 6 undef = .pointer (some ⟨r, 0, none⟩) := by simp [h]
  simp only [results, hr]
  go_simp
/-- the law's end: some marks, and the result in its box -/
theorem scans_end {w : World} {tm : Array Value} (h : tm[6]? = some (.pointer (some ⟨w.heap.size + 1, 0, none⟩))) :
    ∀ (ms : List Nat) (V : World), Below w.heap.size w V → V.heap[w.heap.size + 1]? = some (.cells #[.bool true] 4) → ms.Nodup → (∀ m ∈ ms, w.heap.size + 1 < m ∧ V.heap[m]? = some (.deferred (some []))) →
      LeavesInM Fence.wide 3 Try.prog Try.f4 tm (fun e w' => e = .returned (.bool true) ∧ Below w.heap.size w w') (ms.map mark) .returning V
  | [], V, hb, hr, _, _ => ⟨_, results_four h (cell_one hr), rfl, hb⟩
  | m :: ms, V, hb, hr, hn, hm => by
    have h1 := hm m List.mem_cons_self
    refine ⟨by simp, .inl ⟨_, _, rfl, run_takeDeferred h1.2, ?_⟩⟩
    refine scans_end h ms _ (hb.trans (below_putObj _ _ _ _ (by omega))) ((World.putObj_heap_other (by omega)).trans hr) (List.nodup_cons.1 hn).2 fun m' hm' => ?_
    have h2 := hm m' (List.mem_cons_of_mem _ hm')
    refine ⟨h2.1, (World.putObj_heap_other ?_).trans h2.2⟩
    rintro rfl
    exact (List.nodup_cons.1 hn).1 hm'
/-- a range that is left by its own exit, or gone through: one way on -/
theorem rangeBoth {P : Program} {n : Nat} {g : Operand} {ps : Array Tmp} {assign body : Code} {Q : Exit → Act → World → Prop} {a : Act} {w : World} {X : Type} {gf : Nat} {lb : Array Value}
    (hg : a.eval g = .func (.func gf) #[] lb) (eg : ∀ args w, (callFunc gf args).run P w = .ok (.enter gf args) w)
    (enc : Nat → X → Array Value) (hps : ∀ s x, (enc s x).size = ps.size) (xs : List X)
    (I : Nat → World → Prop) (Ix : Code → World → Prop) (hI : ∀ s A B, I s A → Wid.BelowR w.heap.size A B → I s B) (hIx : ∀ c A B, Ix c A → Wid.BelowR w.heap.size A B → Ix c B)
    (h0 : I 0 w) (a₁ : Nat → X → Act)
    (id : Nat) (Fin : World → Prop) (hfin : ∀ W, I xs.length W → Fin W) (hfix : ∀ c W, Ix c W → c = .exit id ∧ Fin W) (hq : ∀ a w, Q .normal a w → Q (.exit id) a w)
    (hassign : ∀ (s : Nat) (x : X) (W : World) (K : Act → World → Prop), K (a₁ s x) W →
      assign.wpIn (Fence.wide.inRound (w.heap.size + 1)) (n - 1 - 1) P (Exit.then K (fun _ _ _ => False)) { tmps := (ps.zip (enc s x)).foldl (fun t (p, v) => t.setIfInBounds p v) a.tmps, defers := [] } W)
    (hbody : ∀ (s : Nat) (x : X) (W : World), I s W → xs[s]? = some x → w.heap.size + 1 < W.heap.size → body.wpIn (Fence.wide.inRound (w.heap.size + 1)) (n - 1 - 1) P
      (Wid.leavePost I Ix w.heap.size s W) (a₁ s x) W)
    (hiter : ∀ (J : Nat → World → Prop) (Jx : World → Prop) (W : World), W.heap.size = w.heap.size + 2 → Below w.heap.size w W → (∀ s A B, J s A → Wid.BelowR (w.heap.size + 2) A B → J s B) → (∀ A B, Jx A → Wid.BelowR (w.heap.size + 2) A B → Jx B) → (∀ s A, J s A → I s A ∧ w.heap.size + 2 ≤ A.heap.size) → (∀ A, Jx A → (∃ c, Ix c A) ∧ w.heap.size + 2 ≤ A.heap.size) →
      (∀ s x A, J s A → xs[s]? = some x → YieldAt Fence.wide (n - 1 - 1) P (w.heap.size + 1) (enc s x) A fun e B => Held (w.heap.size + 2) A B ∧ ((e = .returned (.bool true) ∧ J (s + 1) B) ∨ (e = .returned (.bool false) ∧ Jx B))) → J 0 W →
      CallsIn Fence.wide (n - 1) P gf (#[.func (.yield (w.heap.size + 1)) #[] #[]] ++ lb) W fun e B => (∃ v, e = .returned v) ∧ (J xs.length B ∨ Jx B))
    (hend : ∀ (W : World), Fin W → W.heap[w.heap.size]? = some (.deferred (some [])) → Q .normal { a with defers := { target := .collected w.heap.size, args := #[] } :: a.defers } W) :
    (Code.rangeFunc g ps assign body).wpIn Fence.wide n P Q a w :=
  Wid.rangeLeave hg eg enc hps xs I Ix hI hIx h0 a₁ hassign hbody hiter (fun W h hd => hend W (hfin W h) hd)
    (fun c W h hd => by
      obtain ⟨rfl, hf⟩ := hfix c W h
      exact wpIn_exit (hq _ _ (hend W hf hd)))
#print axioms rangeBoth
#print axioms scans_end
#print axioms SB.grown
end Go.Proofs.Ytnagknlfboadkaa.Oct
