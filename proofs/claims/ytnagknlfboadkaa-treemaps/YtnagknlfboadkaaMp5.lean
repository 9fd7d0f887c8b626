/-
  A range over a function whose body may leave: what stands between two rounds is told by a place (a number); what is handed out is told by a list. Of no program.
  Layer 7 (tree): the closure of 'from', over a leaf.
  Layer 7 (tree): the closure of 'Scan', over a leaf.
  Layer 7 (tree): Scan, and what the statements' 'told' makes of it, over a leaf.
  Layer 7 (tree): the reference's 'Same' of two lists that are the same; 'told' of a map that no call made; the statements' 'lives'.
  Layer 7 (tree): the reference's Find, Get, Same.
  Layer 7 (tree): the reference's Put and Delete.
  Layer 7 (tree): the reference's Delete.
  Layer 7 (tree): the reference's Scan.
  Layer 7 (tree): a key with a number.
-/
import Derived.Test.YtnagknlfboadkaaMp4
import Derived.RangeFuncNested
import Derived.RangeFuncBound
import Derived.RangeFuncCalls
import Derived.RangeFuncLeaves
import Derived.WalkKit
import Derived.Sort.QuietIn
import Derived.Shelf.Abstract
import Derived.Shelf.RegionOpen
import Derived.OwnWalkIn
import Derived.TacticsInMore
import Derived.LoopNIn
import Derived.LoopIn
import Derived.OwnWalk
import Derived.Laws.IdiomStrings
/- A range over a function whose body may leave: what stands between two rounds is told by a place (a number); what is handed out is told by a list. Of no program. -/
namespace Go.Proofs.Ytnagknlfboadkaa.Oct
open Go.RowKit

theorem below_putObj (B : Nat) (W : World) (l : Nat) (o : Obj) (h : B ≤ l) : Below B W (W.putObj l o) :=
  ⟨rfl, rfl, rfl, by simp, fun _ hk => World.putObj_heap_other (by omega)⟩

/-- cells of pairs -/
def RowAt (A : World) (b : Nat) : Prop := ∃ cs fr, A.heap[b]? = some (.cells cs 40 fr)
/-- blocks from m₀ on, but for those of pairs, lie as they lay -/
def Held (m₀ : Nat) (A B : World) : Prop := A.heap.size ≤ B.heap.size ∧ ∀ b, b < A.heap.size → m₀ ≤ b → ¬ RowAt A b → B.heap[b]? = A.heap[b]?
theorem Held.mono {m₀ m₁ : Nat} {A B : World} (h : Held m₀ A B) (hm : m₀ ≤ m₁) : Held m₁ A B := ⟨h.1, fun b h1 h2 => h.2 b h1 (by omega)⟩
theorem Held.of_below {m₀ : Nat} {A B : World} (h : Below A.heap.size A B) : Held m₀ A B := ⟨h.size, fun b h1 _ _ => h.block b h1⟩
theorem Held.obj {m₀ : Nat} {A B : World} (h : Held m₀ A B) {b : Nat} {o : Obj} (ho : A.heap[b]? = some o) (hn : ∀ cs fr, o ≠ .cells cs 40 fr) (hb : m₀ ≤ b) : B.heap[b]? = some o :=
  (h.2 b (Array.getElem?_eq_some_iff.1 ho).1 hb (by rintro ⟨cs, fr, e⟩; rw [ho] at e; exact hn cs fr (Option.some.inj e))).trans ho
theorem Held.box {m₀ : Nat} {A B : World} (h : Held m₀ A B) {b : Nat} {C : Array Value} {t : TypeId} {fr : Nat × Nat} (ho : A.heap[b]? = some (.cells C t fr)) (hn : t ≠ 40) (hb : m₀ ≤ b) : B.heap[b]? = some (.cells C t fr) :=
  h.obj ho (by rintro cs fr e; cases e; exact hn rfl) hb
theorem Held.trans {m₀ : Nat} {A B C : World} (h : Held m₀ A B) (k : Held m₀ B C) : Held m₀ A C :=
  ⟨Nat.le_trans h.1 k.1, fun b h1 h2 h3 => by
    have e := h.2 b h1 h2 h3
    exact (k.2 b (Nat.lt_of_lt_of_le h1 h.1) h2 (by rintro ⟨cs, fr, e2⟩; exact h3 ⟨cs, fr, by rw [← e]; exact e2⟩)).trans e⟩

/-- what lies below D, and all cells of pairs, lie as they lay -/
structure BelowR (D : Nat) (A B : World) : Prop where
  below : Below D A B
  rows : ∀ b, b < A.heap.size → RowAt A b → B.heap[b]? = A.heap[b]?
theorem BelowR.mono {D D' : Nat} {A B : World} (h : BelowR D A B) (hD : D' ≤ D) : BelowR D' A B := ⟨h.below.mono hD, h.rows⟩
theorem BelowR.full {D : Nat} {A B : World} (h : Below A.heap.size A B) (hD : D ≤ A.heap.size) : BelowR D A B := ⟨h.mono hD, fun b hb _ => h.block b hb⟩
theorem belowR_putObj {D : Nat} {W : World} {l : Nat} {o' : Obj} (o : Obj) (h : D ≤ l) (hl : W.heap[l]? = some o') (hn : ∀ cs fr, o' ≠ .cells cs 40 fr) : BelowR D W (W.putObj l o) :=
  ⟨below_putObj D W l o h, fun b _ hr => World.putObj_heap_other (by
    rintro rfl
    obtain ⟨cs, fr, e⟩ := hr
    rw [hl] at e
    exact hn cs fr (Option.some.inj e))⟩
theorem loop_row {x : Loop} : ∀ cs fr, Obj.loop x ≠ .cells cs 40 fr := by rintro cs fr e; cases e
theorem def_row {x : Option (List Deferred)} : ∀ cs fr, Obj.deferred x ≠ .cells cs 40 fr := by rintro cs fr e; cases e

/-- how the body of a round may be left -/
def leavePost (I : Nat → World → Prop) (Ix : Code → World → Prop) (D : Nat) (s : Nat) (W : World) : Exit → Act → World → Prop
  | .normal, _, W' => I (s + 1) W' ∧ Held D W W'
  | .ret, _, W' => Ix .ret W' ∧ Held D W W'
  | .exit id, _, W' => Ix (.exit id) W' ∧ Held D W W'
  | .goto t, _, W' => Ix (.goto t) W' ∧ Held D W W'
  | .panic _, _, _ => False
  | .outgrown, _, _ => False

theorem rangeLeave {P : Program} {n : Nat} {g : Operand} {ps : Array Tmp} {assign body : Code} {Q : Exit → Act → World → Prop} {a : Act} {w : World} {X : Type} {gf : Nat} {lb : Array Value}
    (hg : a.eval g = .func (.func gf) #[] lb) (eg : ∀ args w, (callFunc gf args).run P w = .ok (.enter gf args) w)
    (enc : Nat → X → Array Value) (hps : ∀ s x, (enc s x).size = ps.size) (xs : List X)
    (I : Nat → World → Prop) (Ix : Code → World → Prop) (hI : ∀ s A B, I s A → BelowR w.heap.size A B → I s B) (hIx : ∀ c A B, Ix c A → BelowR w.heap.size A B → Ix c B)
    (h0 : I 0 w) (a₁ : Nat → X → Act)
    (hassign : ∀ (s : Nat) (x : X) (W : World) (K : Act → World → Prop), K (a₁ s x) W →
      assign.wpIn (Fence.wide.inRound (w.heap.size + 1)) (n - 1 - 1) P (Exit.then K (fun _ _ _ => False)) { tmps := (ps.zip (enc s x)).foldl (fun t (p, v) => t.setIfInBounds p v) a.tmps, defers := [] } W)
    (hbody : ∀ (s : Nat) (x : X) (W : World), I s W → xs[s]? = some x → w.heap.size + 1 < W.heap.size → body.wpIn (Fence.wide.inRound (w.heap.size + 1)) (n - 1 - 1) P
      (leavePost I Ix w.heap.size s W) (a₁ s x) W)
    (hiter : ∀ (J : Nat → World → Prop) (Jx : World → Prop) (W : World), W.heap.size = w.heap.size + 2 → Below w.heap.size w W → (∀ s A B, J s A → BelowR (w.heap.size + 2) A B → J s B) → (∀ A B, Jx A → BelowR (w.heap.size + 2) A B → Jx B) → (∀ s A, J s A → I s A ∧ w.heap.size + 2 ≤ A.heap.size) → (∀ A, Jx A → (∃ c, Ix c A) ∧ w.heap.size + 2 ≤ A.heap.size) →
      (∀ s x A, J s A → xs[s]? = some x → YieldAt Fence.wide (n - 1 - 1) P (w.heap.size + 1) (enc s x) A fun e B => Held (w.heap.size + 2) A B ∧ ((e = .returned (.bool true) ∧ J (s + 1) B) ∨ (e = .returned (.bool false) ∧ Jx B))) → J 0 W →
      CallsIn Fence.wide (n - 1) P gf (#[.func (.yield (w.heap.size + 1)) #[] #[]] ++ lb) W fun e B => (∃ v, e = .returned v) ∧ (J xs.length B ∨ Jx B))
    (hdone : ∀ (W : World), I xs.length W → W.heap[w.heap.size]? = some (.deferred (some [])) → Q .normal { a with defers := { target := .collected w.heap.size, args := #[] } :: a.defers } W)
    (hstop : ∀ (c : Code) (W : World), Ix c W → W.heap[w.heap.size]? = some (.deferred (some [])) → c.wpIn Fence.wide n P Q { a with defers := { target := .collected w.heap.size, args := #[] } :: a.defers } W) :
    (Code.rangeFunc g ps assign body).wpIn Fence.wide n P Q a w := by
  refine wpIn_rangeFunc fun fn hfn => ?_
  obtain ⟨rec, hrec⟩ : ∃ rec : LoopState → Option Code → Loop, rec = fun st pe => { state := st, pending := pe, fn, tmps := a.tmps, params := ps, assign, body, defers := w.heap.size } := ⟨_, rfl⟩
  obtain ⟨W1, hW1⟩ : ∃ W1, (w.alloc (.deferred (some []))).alloc (.loop (rec .ready none)) = W1 := ⟨_, rfl⟩
  have hS1 : W1.heap.size = w.heap.size + 2 := by rw [← hW1]; simp
  have hB1 : Below w.heap.size w W1 := by rw [← hW1]; exact ((Below.refl _ w).alloc (Nat.le_refl _) _).alloc (by simp) _
  have hL1 : W1.heap[w.heap.size + 1]? = some (.loop (rec .ready none)) := by
    have e := World.alloc_heap_new (w.alloc (.deferred (some []))) (.loop (rec .ready none))
    rw [World.size_alloc, hW1] at e
    exact e
  have hD1 : W1.heap[w.heap.size]? = some (.deferred (some [])) := by
    rw [← hW1]
    exact (Below.heap_alloc _ _ _ (by simp)).trans (World.alloc_heap_new w _)
  have hcall := hiter (fun s W => I s W ∧ W.heap[w.heap.size + 1]? = some (.loop (rec .ready none)) ∧ W.heap[w.heap.size]? = some (.deferred (some [])))
    (fun W => ∃ c, Ix c W ∧ W.heap[w.heap.size + 1]? = some (.loop (rec .done (some c))) ∧ W.heap[w.heap.size]? = some (.deferred (some []))) W1 hS1 hB1
    (fun s A B hs hb => ⟨hI s A B hs.1 (hb.mono (by omega)), (hb.below.block _ (by omega)).trans hs.2.1, (hb.below.block _ (by omega)).trans hs.2.2⟩)
    (fun A B hs hb => by obtain ⟨c, h1, h2, h3⟩ := hs; exact ⟨c, hIx c A B h1 (hb.mono (by omega)), (hb.below.block _ (by omega)).trans h2, (hb.below.block _ (by omega)).trans h3⟩)
    (fun s A hs => ⟨hs.1, (Array.getElem?_eq_some_iff.1 hs.2.1).1⟩) (fun A hs => by obtain ⟨c, h1, h2, _⟩ := hs; exact ⟨⟨c, h1⟩, (Array.getElem?_eq_some_iff.1 h2).1⟩) ?rounds ⟨hI 0 w W1 h0 (BelowR.full hB1 (Nat.le_refl _)), hL1, hD1⟩
  case rounds =>
    rintro s x A ⟨hi, hl, hd⟩ hp
    have hlt : w.heap.size + 1 < A.heap.size := (Array.getElem?_eq_some_iff.1 hl).1
    have hy := run_yield (P := P) (args := enc s x) hl (by rw [hrec]; exact hps s x)
    rw [hrec] at hy
    refine ⟨fn, _, assign, body, hy, roundIn_of_wpIn hfn (hassign s x A _ ⟨_, run_beginRound hl (by rw [hrec]), ?_⟩)⟩
    have hb : (A.putObj (w.heap.size + 1) (.loop { rec .ready none with state := .busy })).heap[w.heap.size + 1]? = some (.loop { rec .ready none with state := .busy }) := World.putObj_heap_same hlt
    have hd2 : (A.putObj (w.heap.size + 1) (.loop { rec .ready none with state := .busy })).heap[w.heap.size]? = some (.deferred (some [])) := (World.putObj_heap_other (by omega)).trans hd
    have hi2 := hI s A _ hi (belowR_putObj (.loop { rec .ready none with state := .busy }) (by omega) hl loop_row)
    refine wpIn_mono (hbody s x _ hi2 hp (by simpa using hlt)) ?_
    have fin : ∀ (jump : Option Code) (B : World), Held w.heap.size (A.putObj (w.heap.size + 1) (.loop { rec .ready none with state := .busy })) B →
        (Instr.endRound (w.heap.size + 1) jump).run P B = .ok (.bool jump.isNone) (B.putObj (w.heap.size + 1) (.loop (rec (if jump.isNone then .ready else .done) jump))) ∧
        (B.putObj (w.heap.size + 1) (.loop (rec (if jump.isNone then .ready else .done) jump))).heap[w.heap.size + 1]? = some (.loop (rec (if jump.isNone then .ready else .done) jump)) ∧
        (B.putObj (w.heap.size + 1) (.loop (rec (if jump.isNone then .ready else .done) jump))).heap[w.heap.size]? = some (.deferred (some [])) ∧
        Held (w.heap.size + 2) A (B.putObj (w.heap.size + 1) (.loop (rec (if jump.isNone then .ready else .done) jump))) ∧ BelowR w.heap.size B (B.putObj (w.heap.size + 1) (.loop (rec (if jump.isNone then .ready else .done) jump))) := by
      intro jump B hh
      have hl3 := hh.obj hb (by rintro cs fr e; cases e) (by omega)
      have hd3 := hh.obj hd2 (by rintro cs fr e; cases e) (Nat.le_refl _)
      have hr := run_endRound (P := P) jump hl3
      rw [hrec] at hr hl3 ⊢
      refine ⟨hr, World.putObj_heap_same (Array.getElem?_eq_some_iff.1 hl3).1, (World.putObj_heap_other (by omega)).trans hd3, ⟨?_, ?_⟩, belowR_putObj _ (by omega) hl3 loop_row⟩
      · have := hh.1; simp at this ⊢; exact this
      · intro b h1 h2 h3
        rw [World.putObj_heap_other (by omega), hh.2 b (by simpa using h1) (by omega) (by rintro ⟨cs, fr, e⟩; rw [World.putObj_heap_other (by omega)] at e; exact h3 ⟨cs, fr, e⟩), World.putObj_heap_other (by omega)]
    rintro e a3 B hp
    cases e with
    | normal =>
      obtain ⟨hi3, hh⟩ := hp
      obtain ⟨hr, hl4, hk4, hh4, hr4⟩ := fin none B hh
      exact ⟨_, _, hr, hh4, .inl ⟨rfl, hI _ B _ hi3 hr4, hl4, hk4⟩⟩
    | ret =>
      obtain ⟨hi3, hh⟩ := hp
      obtain ⟨hr, hl4, hk4, hh4, hr4⟩ := fin (some .ret) B hh
      exact ⟨_, _, hr, hh4, .inr ⟨rfl, .ret, hIx _ B _ hi3 hr4, hl4, hk4⟩⟩
    | exit id =>
      obtain ⟨hi3, hh⟩ := hp
      obtain ⟨hr, hl4, hk4, hh4, hr4⟩ := fin (some (.exit id)) B hh
      exact ⟨_, _, hr, hh4, .inr ⟨rfl, .exit id, hIx _ B _ hi3 hr4, hl4, hk4⟩⟩
    | goto t =>
      obtain ⟨hi3, hh⟩ := hp
      obtain ⟨hr, hl4, hk4, hh4, hr4⟩ := fin (some (.goto t)) B hh
      exact ⟨_, _, hr, hh4, .inr ⟨rfl, .goto t, hIx _ B _ hi3 hr4, hl4, hk4⟩⟩
    | panic ch => exact hp.elim
    | outgrown => exact hp.elim
  refine ⟨w.heap.size + 1, [{ target := .collected w.heap.size, args := #[] }], W1, { target := .fn (.func gf) lb, args := #[.func (.yield (w.heap.size + 1)) #[] #[]] }, W1, gf, #[.func (.yield (w.heap.size + 1)) #[] #[]] ++ lb, W1, ?_, ?_, ?_, ?_, ?_, ?_⟩
  · rw [← hW1, hrec]; exact run_enterLoop_outer _ _ _ _ _
  · simp only [resolve, hg]
    simp [go_sem]
  · intro f' _; trivial
  · simp [invoke, go_sem, eg]
  · intro h; cases h
  · refine hcall.mono ?_
    rintro e B ⟨⟨v, rfl⟩, ⟨hi, hl, hd⟩ | ⟨c, hi, hl, hd⟩⟩
    · have he := run_endLoop (P := P) hl (by rw [hrec]; simp)
      refine ⟨none, _, by rw [hrec] at he; exact he, ?_⟩
      exact hdone _ (hI _ B _ hi (belowR_putObj _ (by omega) hl loop_row)) ((World.putObj_heap_other (by omega)).trans hd)
    · have he := run_endLoop (P := P) hl (by rw [hrec]; simp)
      refine ⟨some c, _, by rw [hrec] at he; exact he, ?_⟩
      exact hstop c _ (hIx c B _ hi (belowR_putObj _ (by omega) hl loop_row)) ((World.putObj_heap_other (by omega)).trans hd)
end Go.Proofs.Ytnagknlfboadkaa.Oct

/- Layer 7 (tree): the closure of 'from', over a leaf. -/
namespace Go.Proofs.Ytnagknlfboadkaa.Oct
open Go.RowKit Go.Shelf
attribute [local go_sem] Oper.semAt_some

def encQ (x : Pr) : Array Value := #[.string x.1, .string x.2]
theorem cell_one {A : World} {b : Nat} {v : Value} {t : TypeId} (h : A.heap[b]? = some (.cells #[v] t)) : A.cell? ⟨b, 0, none⟩ = some v := by
  rw [cell_of_row A b 0 _ t (0, 0) h]
  rfl
theorem YieldAt.deep {m : Nat} (m' : Nat) {P : Program} {l : Nat} {args : Array Value} {W : World} {R : Ending → World → Prop} (h : YieldAt Fence.wide m P l args W R) : YieldAt Fence.wide m' P l args W R := by
  obtain ⟨fn, tmps, asg, bdy, hy, h1, h2⟩ := h
  exact ⟨fn, tmps, asg, bdy, hy, h1, fun c cs _ => h2 c cs (room_wide _)⟩
theorem said_bool {e : Ending} {p q : Prop} (h : (e = .returned (.bool true) ∧ p) ∨ (e = .returned (.bool false) ∧ q)) : ∃ v : Bool, e = .returned (.bool v) ∧ Hid ((v = true ∧ p) ∨ (v = false ∧ q)) := by
  rcases h with ⟨h, hp⟩ | ⟨h, hq⟩
  · exact ⟨true, h, .inl ⟨rfl, hp⟩⟩
  · exact ⟨false, h, .inr ⟨rfl, hq⟩⟩

set_option maxRecDepth 100000 in
set_option maxHeartbeats 2000000 in
theorem from1_in (d l1 Bn Bk nd n cap : Nat) (a : Option Addr) (ps : List Pr) (key : ByteArray) (k : Nat) (hn : n ≤ 1000000) (hm : Mono ps key) (ha : AtP ps key k) (m₀ : Nat) (J : Nat → World → Prop) (Jx : World → Prop)
    (hJb : ∀ t A B, J t A → BelowR m₀ A B → J t B) (hJx : ∀ A, Jx A → A.cell? ⟨Bn, 0, none⟩ = some (.pointer (some ⟨nd, 0, none⟩)) ∧ Nd A nd a n cap ps (.slice none 0 0)) (hJ : ∀ t A, J t A → A.cell? ⟨Bn, 0, none⟩ = some (.pointer (some ⟨nd, 0, none⟩)) ∧ A.cell? ⟨Bk, 0, none⟩ = some (.string key) ∧ Nd A nd a n cap ps (.slice none 0 0) ∧ m₀ ≤ A.heap.size)
    (hY : ∀ t x A, J t A → (ps.drop k)[t]? = some x → YieldAt Fence.wide 0 Try.prog l1 (encQ x) A fun e B => Held m₀ A B ∧ ((e = .returned (.bool true) ∧ J (t + 1) B) ∨ (e = .returned (.bool false) ∧ Jx B)))
    (W : World) (hW : W.heap.size = m₀) (h0 : J 0 W) :
    CallsIn Fence.wide d Try.prog 37 #[.func (.yield l1) #[] #[], .pointer (some ⟨Bn, 0, none⟩), .pointer (some ⟨Bk, 0, none⟩)] W fun e B => (∃ v, e = .returned v) ∧ (J (ps.drop k).length B ∨ Jx B) := by
  refine callsIn_of_wp Try.func37 rfl trivial ?_ rfl
  simp only [Try.ntmps37, List.size_toArray, List.length_cons, List.length_nil, Nat.reduceAdd, Nat.reduceSub, Array.replicate_succ, Array.replicate_zero, List.push_toArray, List.append_toArray, List.nil_append, List.cons_append]
  have HN : Hid (n ≤ 1000000 ∧ Mono ps key ∧ AtP ps key k) := ⟨hn, hm, ha⟩
  have hJ0 := hJb 0 W (W.alloc (.cells #[.func (.yield l1) #[] #[]] 42)) h0 (BelowR.full ((Below.refl _ W).alloc (Nat.le_refl _) _) (by omega))
  obtain ⟨cn, ck, hnd, _⟩ := hJ 0 _ hJ0
  have HD : Hid (Nd (W.alloc (.cells #[.func (.yield l1) #[] #[]] 42)) nd a n cap ps (.slice none 0 0)) := hnd
  clear hn hm ha hnd
  gi_wp2_with (refine ⟨trivial, (fun h => by cases h), ?_⟩; gi_at_call 38; refine (callsIn_wide.2 (place_is _ nd a n cap ps _ key HD.out HN.out.2.1 (by have := HN.out; omega))).mono ?_; rintro e w1 ⟨k1, rfl, HA1, HB1⟩)
  have hk1 : k1 = k := HA1.out.uniq HN.out.2.2
  subst hk1
  have hkn : k1 ≤ n := by rw [← HD.out.rd.1]; exact HN.out.2.2.1
  have hJ1 : J 0 w1 := hJb 0 _ _ hJ0 (BelowR.full HB1.out (by simp; omega))
  have hy1 : w1.heap[m₀]? = some (.cells #[.func (.yield l1) #[] #[]] 42) := by
    rw [HB1.out.block m₀ (by simp; omega), ← hW]
    exact World.alloc_heap_new W _
  have HLEN : Hid (ps.length = n) := HD.out.rd.1
  have HKN : Hid (k1 ≤ n) := hkn
  clear hkn hJ0 cn ck HD HB1 HA1 h0
  obtain ⟨N, hN⟩ : ∃ N, n + 1 = N := ⟨_, rfl⟩
  have HNN : Hid (n + 1 = N) := hN
  clear hN
  gi_loopw [6] (fun u wr => ∃ i : Nat, u = .int .i64 (i : Int) ∧ Hid (k1 ≤ i ∧ i ≤ n + 1) ∧ Hid (J (if i ≤ n then i - k1 else n - k1) wr) ∧ Hid (wr.heap[m₀]? = some (.cells #[.func (.yield l1) #[] #[]] 42))) (fun u _ => N - (intOf u).toNat)
  case atStart => exact ⟨k1, rfl, ⟨Nat.le_refl _, by have := HKN.out; omega⟩, by show J _ _; rw [if_pos HKN.out, Nat.sub_self]; exact hJ1, hy1⟩
  case round =>
    clear hJ1 hy1
    obtain ⟨i, rfl, HI, HJ, HYC⟩ := hrel
    obtain ⟨cn, ck, hnd, _⟩ := hJ _ _ HJ.out
    have HD : Hid (Nd wr nd a n cap ps (.slice none 0 0)) := hnd
    have c0 := hnd.blk.cell (i := 0) rfl
    have c1 := hnd.blk.cell (i := 1) rfl
    have cy := cell_one HYC.out
    have b1 : (i : Int) ≤ 1000001 := by have := HI.out; have := HN.out; omega
    clear hnd
    by_cases hi : i < n
    · obtain ⟨x, hx⟩ : ∃ x, ps[i]? = some x := ⟨_, List.getElem?_eq_getElem (by rw [HLEN.out]; exact hi)⟩
      obtain ⟨g, off, rfl, hg, hc⟩ := HD.out.rd.2 (by omega)
      have e0 := (hc i x hx).1
      have e1 := (hc i x hx).2
      have q1 : (i : Int) ≤ (n : Int) := by omega
      have q2 : (i : Int) < (n : Int) := by omega
      have hdx : (ps.drop k1)[i - k1]? = some x := by rw [List.getElem?_drop, show k1 + (i - k1) = i by have := HI.out; omega]; exact hx
      have HJD : Hid (J (i - k1) wr.drew) := by
        have e := HJ.out
        rw [if_pos (by omega)] at e
        exact hJb _ _ _ e (BelowR.full (Below.refl _ wr).drew (by assumption))
      have HIL : Hid (i < n) := hi
      have HYA : Hid (YieldAt Fence.wide (d - 1) Try.prog l1 #[.string x.1, .string x.2] wr.drew fun e B => Held m₀ wr.drew B ∧ ((e = .returned (.bool true) ∧ J (i - k1 + 1) B) ∨ (e = .returned (.bool false) ∧ Jx B))) := YieldAt.deep (d - 1) (hY _ _ wr.drew HJD.out hdx)
      have HX : Hid (ps[i]? = some x) := hx
      clear hc hdx hx hi
      gi_wp2_with (refine ⟨trivial, (fun h => by cases h), ?_⟩; gi_at_call 39; refine (callsIn_wide.2 (leaf_is wr nd c1)).mono ?_; rintro e w2 ⟨rfl, rfl⟩)
      refine reg11 cy cn c0 e0 e1 q2 HYA.out ?_ ?_
      · rintro e B ⟨hH, hD⟩
        have hyB : B.cell? ⟨m₀, 0, none⟩ = some (.func (.yield l1) #[] #[]) := cell_one (hH.box HYC.out (by decide) (Nat.le_refl _))
        have fin : ∀ (v : Bool), e = .returned (.bool v) → B.cell? ⟨Bn, 0, none⟩ = some (.pointer (some ⟨nd, 0, none⟩)) → Nd B nd (some ⟨g, off, none⟩) n cap ps (.slice none 0 0) → ∃ v : Bool, e = .returned (.bool v) ∧ B.cell? ⟨m₀, 0, none⟩ = some (.func (.yield l1) #[] #[]) ∧ B.cell? ⟨Bn, 0, none⟩ = some (.pointer (some ⟨nd, 0, none⟩)) ∧ B.cell? ⟨nd, 0, none⟩ = some (.slice (some ⟨g, off, none⟩) n cap) ∧ B.cell? ⟨g, off + i * 2, none⟩ = some (.string x.1) ∧ B.cell? ⟨g, off + i * 2 + 1, none⟩ = some (.string x.2) := by
          intro v h1 h2 h3
          obtain ⟨g', off', e', _, hc⟩ := h3.rd.2 (by have := HIL.out; omega)
          cases e'
          exact ⟨v, h1, hyB, h2, h3.blk.cell (i := 0) rfl, (hc i x HX.out).1, (hc i x HX.out).2⟩
        rcases hD with ⟨h1, h2⟩ | ⟨h1, h2⟩
        · obtain ⟨r1, _, r3, _⟩ := hJ _ _ h2
          exact fin true h1 r1 r3
        · obtain ⟨r1, r3⟩ := hJx _ h2
          exact fin false h1 r1 r3
      · rintro v B ⟨hH, hD⟩
        have hyB : B.heap[m₀]? = some (.cells #[.func (.yield l1) #[] #[]] 42) := hH.box HYC.out (by decide) (Nat.le_refl _)
        have HYB : Hid (B.heap[m₀]? = some (.cells #[.func (.yield l1) #[] #[]] 42)) := hyB
        clear hyB hH
        cases v with
        | true =>
          have HJ3 : Hid (J (i - k1 + 1) B) := by
            rcases hD with ⟨h1, h2⟩ | ⟨h1, h2⟩
            · exact h2
            · cases h1
          clear hD
          gi_wp2
          go_roundw
          case rel =>
            refine ⟨i + 1, by simp, ⟨by have := HI.out; omega, by have := HIL.out; omega⟩, ?_, HYB⟩
            show J _ _
            rw [if_pos (by have := HIL.out; omega), show i + 1 - k1 = i - k1 + 1 by have := HI.out; omega]
            exact HJ3.out
          case measure => have := HNN.out; have := HIL.out; simp [intOf]; omega
        | false =>
          have HJ3 : Hid (Jx B) := by
            rcases hD with ⟨h1, h2⟩ | ⟨h1, h2⟩
            · cases h1
            · exact h2
          clear hD
          gi_wp2
          refine bodyPost_ret (results_none rfl _ _ _) rfl ?_
          exact ⟨⟨_, rfl⟩, .inr HJ3.out⟩
    · by_cases hin : i = n
      · subst hin
        have q1 : (i : Int) ≤ (i : Int) := Int.le_refl _
        have q2 : ¬ (i : Int) < (i : Int) := by omega
        have HJN : Hid (J (i - k1) wr) := by have e := HJ.out; rw [if_pos (Nat.le_refl _)] at e; exact e
        gi_wp2_with (refine ⟨trivial, (fun h => by cases h), ?_⟩; gi_at_call 39; refine (callsIn_wide.2 (leaf_is wr nd c1)).mono ?_; rintro e w2 ⟨rfl, rfl⟩)
        refine reg11n cn c0 (by omega) ?_
        gi_wp2
        go_roundw
        case rel =>
          refine ⟨i + 1, by simp, ⟨by have := HI.out; omega, Nat.le_refl _⟩, ?_, HYC.out⟩
          show J _ _
          rw [if_neg (by omega)]
          exact hJb _ _ _ HJN.out (BelowR.full (Below.refl _ wr).drew (by assumption))
        case measure => have := HNN.out; simp [intOf]; omega
      · have q1 : ¬ (i : Int) ≤ (n : Int) := by omega
        have HJN : Hid (J (n - k1) wr) := by have e := HJ.out; rw [if_neg (by omega)] at e; exact e
        gi_wp2
        go_end0
        refine ⟨⟨_, rfl⟩, .inl ?_⟩
        rw [HLEN.out]
        exact HJN.out
end Go.Proofs.Ytnagknlfboadkaa.Oct

/- Layer 7 (tree): the closure of 'Scan', over a leaf. -/
namespace Go.Proofs.Ytnagknlfboadkaa.Oct
open Go.RowKit Go.Shelf
attribute [local go_sem] Oper.semAt_some

/-- a key that a scan tells: below its end, if it has one -/
def okS (til : ByteArray) (x : Pr) : Bool := til.toList.isEmpty || !(geS x.1 til)
/-- what a scan of pairs tells -/
def scanP (ps : List Pr) (k : Nat) (til : ByteArray) : List Pr := (ps.drop k).takeWhile (okS til)
theorem takeWhile_at {α : Type} {p : α → Bool} : ∀ {l : List α} {s : Nat} {x : α}, s ≤ (l.takeWhile p).length → l[s]? = some x → (p x = true → (l.takeWhile p)[s]? = some x) ∧ (p x = false → s = (l.takeWhile p).length)
  | [], s, x, _, h => by simp at h
  | y :: r, s, x, hs, h => by
    rw [List.takeWhile_cons] at hs ⊢
    by_cases hy : p y = true
    · rw [if_pos hy] at hs ⊢
      cases s with
      | zero =>
        simp at h
        subst h
        exact ⟨fun _ => rfl, fun e => by rw [hy] at e; cases e⟩
      | succ t =>
        rw [List.getElem?_cons_succ] at h
        have ih := takeWhile_at (p := p) (l := r) (s := t) (x := x) (by simpa using hs) h
        exact ⟨fun e => by rw [List.getElem?_cons_succ]; exact ih.1 e, fun e => by rw [List.length_cons, ← ih.2 e]⟩
    · rw [if_neg hy] at hs ⊢
      have : s = 0 := by simpa using hs
      subst this
      simp at h
      subst h
      exact ⟨fun e => absurd e hy, fun _ => rfl⟩
theorem takeWhile_le {α : Type} (p : α → Bool) (l : List α) : (l.takeWhile p).length ≤ l.length := (List.takeWhile_sublist p).length_le

theorem from_is (w : World) (r : Option Addr) (key : ByteArray) : Calls Try.prog 29 #[.pointer r, .string key] w fun e w' => e = .returned (.func (.func 37) #[] #[.pointer (some ⟨w.heap.size, 0, none⟩), .pointer (some ⟨w.heap.size + 1, 0, none⟩)]) ∧ Hid (w' = (w.alloc (.cells #[.pointer r] 46)).alloc (.cells #[.string key] 9)) := by
  go_enter Try.func29, Try.ntmps29
  go_wp2
  go_ret
  exact ⟨rfl, rfl⟩
/-- between two rounds of the loop within 'Scan' -/
structure SInv (J : Nat → World → Prop) (L m₀ l1 nd : Nat) (key : ByteArray) (t : Nat) (A : World) : Prop where
  le : t ≤ L
  j : J t A
  y : A.heap[m₀]? = some (.cells #[.func (.yield l1) #[] #[]] 42)
  n : A.heap[m₀ + 1]? = some (.cells #[.pointer (some ⟨nd, 0, none⟩)] 46)
  k : A.heap[m₀ + 2]? = some (.cells #[.string key] 9)
structure SOut (J : Nat → World → Prop) (Jx : World → Prop) (L m₀ nd : Nat) (c : Code) (A : World) : Prop where
  ret : c = .ret
  j : J L A ∨ Jx A
  n : A.heap[m₀ + 1]? = some (.cells #[.pointer (some ⟨nd, 0, none⟩)] 46)

set_option maxRecDepth 100000 in
set_option maxHeartbeats 2000000 in
theorem scan2_in (d l1 Br Bf Bu nd n cap : Nat) (a : Option Addr) (ps : List Pr) (key til : ByteArray) (k : Nat) (hn : n ≤ 1000000) (hm : Mono ps key) (ha : AtP ps key k) (m₀ : Nat) (J : Nat → World → Prop) (Jx : World → Prop)
    (hJb : ∀ t A B, J t A → BelowR m₀ A B → J t B) (hJxb : ∀ A B, Jx A → BelowR m₀ A B → Jx B) (hJx : ∀ A, Jx A → Nd A nd a n cap ps (.slice none 0 0))
    (hJ : ∀ t A, J t A → A.cell? ⟨Br, 0, none⟩ = some (.pointer (some ⟨nd, 0, none⟩)) ∧ A.cell? ⟨Bf, 0, none⟩ = some (.string key) ∧ A.cell? ⟨Bu, 0, none⟩ = some (.string til) ∧ Nd A nd a n cap ps (.slice none 0 0) ∧ m₀ ≤ A.heap.size)
    (hY : ∀ t x A, J t A → (scanP ps k til)[t]? = some x → YieldAt Fence.wide 0 Try.prog l1 (encQ x) A fun e B => Held m₀ A B ∧ ((e = .returned (.bool true) ∧ J (t + 1) B) ∨ (e = .returned (.bool false) ∧ Jx B)))
    (W : World) (hW : W.heap.size = m₀) (h0 : J 0 W) :
    CallsIn Fence.wide d Try.prog 28 #[.func (.yield l1) #[] #[], .pointer (some ⟨Br, 0, none⟩), .pointer (some ⟨Bf, 0, none⟩), .pointer (some ⟨Bu, 0, none⟩)] W fun e B => (∃ v, e = .returned v) ∧ (J (scanP ps k til).length B ∨ Jx B) := by
  refine callsIn_of_wp_marks Try.func28 rfl trivial ?_ rfl
  simp only [Try.ntmps28, List.size_toArray, List.length_cons, List.length_nil, Nat.reduceAdd, Nat.reduceSub, Array.replicate_succ, Array.replicate_zero, List.push_toArray, List.append_toArray, List.nil_append, List.cons_append]
  have HN : Hid (n ≤ 1000000 ∧ Mono ps key ∧ AtP ps key k) := ⟨hn, hm, ha⟩
  have hJ0 := hJb 0 W (W.alloc (.cells #[.func (.yield l1) #[] #[]] 42)) h0 (BelowR.full ((Below.refl _ W).alloc (Nat.le_refl _) _) (by omega))
  obtain ⟨cr, cf, cu, _, _⟩ := hJ 0 _ hJ0
  clear hn hm ha
  gi_wp2_with (refine ⟨trivial, (fun h => by cases h), ?_⟩; gi_at_call 29; refine (callsIn_wide.2 (from_is _ _ key)).mono ?_; rintro e w1 ⟨rfl, HW1⟩)
  have hw1 := HW1.out
  have HB : Hid (Below m₀ W w1) := by rw [hw1]; exact (((Below.refl _ W).alloc (by omega) _).alloc (by simp; omega) _).alloc (by simp; omega) _
  have HSZ : Hid (w1.heap.size = m₀ + 3) := by show _ = _; rw [hw1]; simp [hW]
  have hy1 : w1.heap[m₀]? = some (.cells #[.func (.yield l1) #[] #[]] 42) := by
    rw [hw1, Below.heap_alloc _ _ _ (by simp; omega), Below.heap_alloc _ _ _ (by simp; omega), ← hW]
    exact World.alloc_heap_new W _
  have hn1 : w1.heap[m₀ + 1]? = some (.cells #[.pointer (some ⟨nd, 0, none⟩)] 46) := by
    have e := World.alloc_heap_new (W.alloc (.cells #[.func (.yield l1) #[] #[]] 42)) (.cells #[.pointer (some ⟨nd, 0, none⟩)] 46)
    rw [World.size_alloc, hW] at e
    rw [hw1, Below.heap_alloc _ _ _ (by simp; omega)]
    exact e
  have hk1 : w1.heap[m₀ + 2]? = some (.cells #[.string key] 9) := by
    have e := World.alloc_heap_new ((W.alloc (.cells #[.func (.yield l1) #[] #[]] 42)).alloc (.cells #[.pointer (some ⟨nd, 0, none⟩)] 46)) (.cells #[.string key] 9)
    rw [World.size_alloc, World.size_alloc, hW] at e
    rw [hw1]
    exact e
  clear hw1 HW1 hJ0 cr cf cu
  refine rangeLeave (gf := 37) (lb := #[.pointer (some ⟨m₀ + 1, 0, none⟩), .pointer (some ⟨m₀ + 1 + 1, 0, none⟩)]) rfl (enters_of Try.func37 (by kernel_rfl) rfl) (fun _ x => encQ x) (fun _ _ => rfl) (ps.drop k)
    (SInv J (scanP ps k til).length m₀ l1 nd key) (SOut J Jx (scanP ps k til).length m₀ nd) ?hI ?hIx ⟨Nat.zero_le _, hJb 0 W w1 h0 (BelowR.full (by rw [hW]; exact HB.out) (by omega)), hy1, hn1, hk1⟩
    (fun _ x => { tmps := #[.func (.yield l1) #[] #[], .pointer (some ⟨Br, 0, none⟩), .pointer (some ⟨Bf, 0, none⟩), .pointer (some ⟨Bu, 0, none⟩), .pointer (some ⟨m₀, 0, none⟩), .string x.1, .string x.2, .pointer (some ⟨nd, 0, none⟩), .string key, .func (.func 37) #[] #[.pointer (some ⟨m₀ + 1, 0, none⟩), .pointer (some ⟨m₀ + 1 + 1, 0, none⟩)], .string x.1, .string x.2, undef, undef, undef, undef, undef, undef, undef, undef, undef, undef, undef, undef, undef, undef], defers := [] }) ?assign ?body ?iter ?done ?stop
  case hI =>
    rintro t A B h hb
    rw [HSZ.out] at hb
    exact ⟨h.le, hJb t A B h.j (hb.mono (by omega)), (hb.below.block _ (by omega)).trans h.y, (hb.below.block _ (by omega)).trans h.n, (hb.below.block _ (by omega)).trans h.k⟩
  case hIx =>
    rintro c A B h hb
    rw [HSZ.out] at hb
    exact ⟨h.ret, h.j.imp (fun j => hJb _ A B j (hb.mono (by omega))) (fun j => hJxb A B j (hb.mono (by omega))), (hb.below.block _ (by omega)).trans h.n⟩
  case assign =>
    intro t x A K hK
    dsimp only [encQ]
    gi_wp2
    exact hK
  case body =>
    rintro t x A h hx hlt
    have HT := takeWhile_at (p := okS til) h.le hx
    have HTT : Hid ((okS til x = true → (scanP ps k til)[t]? = some x) ∧ (okS til x = false → t = (scanP ps k til).length)) := HT
    have HI : Hid (SInv J (scanP ps k til).length m₀ l1 nd key t A) := h
    obtain ⟨_, _, cu, _, _⟩ := hJ _ _ h.j
    have cy := cell_one h.y
    clear HT hx hlt h
    have goes : okS til x = true → YieldAt Fence.wide (d - 1 - 1 - 1) Try.prog l1 #[.string x.1, .string x.2] A fun e B => Held m₀ A B ∧ ((e = .returned (.bool true) ∧ J (t + 1) B) ∨ (e = .returned (.bool false) ∧ Jx B)) := fun e => YieldAt.deep _ (hY t x A HI.out.j (HTT.out.1 e))
    have GO : Hid (okS til x = true → YieldAt Fence.wide (d - 1 - 1 - 1) Try.prog l1 #[.string x.1, .string x.2] A fun e B => Held m₀ A B ∧ ((e = .returned (.bool true) ∧ J (t + 1) B) ∨ (e = .returned (.bool false) ∧ Jx B))) := goes
    have HX : Hid (∀ B, Held m₀ A B → B.heap[m₀]? = some (.cells #[.func (.yield l1) #[] #[]] 42) ∧ B.heap[m₀ + 1]? = some (.cells #[.pointer (some ⟨nd, 0, none⟩)] 46) ∧ B.heap[m₀ + 2]? = some (.cells #[.string key] 9) ∧ Held w1.heap.size A B) := fun B hB =>
      ⟨hB.box HI.out.y (by decide) (Nat.le_refl _), hB.box HI.out.n (by decide) (by omega), hB.box HI.out.k (by decide) (by omega), hB.mono (by have := HSZ.out; omega)⟩
    clear goes
    cases he : til.toList.isEmpty with
    | true =>
      have f1 : (til.toList == ([] : List UInt8)) = true := by simpa using he
      have hok : okS til x = true := by simp [okS, he]
      have HLT : Hid (t + 1 ≤ (scanP ps k til).length) := (List.getElem?_eq_some_iff.1 (HTT.out.1 hok)).1
      obtain ⟨fn, tmps, asg, bdy, hy, hR⟩ := GO.out hok
      clear hok
      gi_wp2
      refine ⟨(fun h => by cases h), hR.mono ?_⟩
      rintro e B ⟨hH, ⟨rfl, hJ3⟩ | ⟨rfl, hJ3⟩⟩
      · have HJ3 : Hid (J (t + 1) B ∧ Held m₀ A B) := ⟨hJ3, hH⟩
        clear hy hR hJ3 hH cu cy
        gi_wp2
        have hx := HX.out B HJ3.out.2
        exact ⟨⟨HLT.out, HJ3.out.1, hx.1, hx.2.1, hx.2.2.1⟩, hx.2.2.2⟩
      · have HJ3 : Hid (Jx B ∧ Held m₀ A B) := ⟨hJ3, hH⟩
        clear hy hR hJ3 hH cu cy
        gi_wp2
        have hx := HX.out B HJ3.out.2
        exact ⟨⟨rfl, .inr HJ3.out.1, hx.2.1⟩, hx.2.2.2⟩
    | false =>
      have f1 : (til.toList == ([] : List UInt8)) = false := by simpa using he
      cases hg : Op.bytesLess x.1.toList til.toList with
      | true =>
        have hok : okS til x = true := by simp [okS, geS, hg]
        have HLT : Hid (t + 1 ≤ (scanP ps k til).length) := (List.getElem?_eq_some_iff.1 (HTT.out.1 hok)).1
        obtain ⟨fn, tmps, asg, bdy, hy, hR⟩ := GO.out hok
        clear hok
        gi_wp2
        refine ⟨(fun h => by cases h), hR.mono ?_⟩
        rintro e B ⟨hH, ⟨rfl, hJ3⟩ | ⟨rfl, hJ3⟩⟩
        · have HJ3 : Hid (J (t + 1) B ∧ Held m₀ A B) := ⟨hJ3, hH⟩
          clear hy hR hJ3 hH cu cy
          gi_wp2
          have hx := HX.out B HJ3.out.2
          exact ⟨⟨HLT.out, HJ3.out.1, hx.1, hx.2.1, hx.2.2.1⟩, hx.2.2.2⟩
        · have HJ3 : Hid (Jx B ∧ Held m₀ A B) := ⟨hJ3, hH⟩
          clear hy hR hJ3 hH cu cy
          gi_wp2
          have hx := HX.out B HJ3.out.2
          exact ⟨⟨rfl, .inr HJ3.out.1, hx.2.1⟩, hx.2.2.2⟩
      | false =>
        have hok : okS til x = false := by simp [okS, geS, hg, he]
        have HE : Hid (t = (scanP ps k til).length) := HTT.out.2 hok
        clear hok
        gi_wp2
        refine ⟨(fun f h => by cases h), ?_⟩
        gi_wp2
        refine ⟨⟨rfl, .inl ?_, HI.out.n⟩, Nat.le_refl _, fun _ _ _ _ => rfl⟩
        rw [← HE.out]; exact HI.out.j
  case iter =>
    intro J' Jx' A hS hB hJ'b hJx'b hJ'I hJ'X hY' h0'
    refine from1_in _ _ _ _ nd n cap a ps key k HN.out.1 HN.out.2.1 HN.out.2.2 (w1.heap.size + 2) J' Jx' hJ'b ?_ ?_ (fun t x A hj hx => YieldAt.deep 0 (hY' t x A hj hx)) A hS h0'
    · intro A hA
      obtain ⟨⟨c, hc⟩, _⟩ := hJ'X A hA
      refine ⟨cell_one hc.n, ?_⟩
      rcases hc.j with j | j
      · exact (hJ _ _ j).2.2.2.1
      · exact hJx _ j
    · intro t A hA
      obtain ⟨hI, hsz⟩ := hJ'I t A hA
      exact ⟨cell_one hI.n, cell_one hI.k, (hJ _ _ hI.j).2.2.2.1, hsz⟩
  case done =>
    rintro A h hK
    gi_wp2
    refine ⟨by simp, .inl ⟨_, _, rfl, run_takeDeferred hK, ?_⟩⟩
    refine ⟨_, results_none rfl _ _ _, ⟨_, rfl⟩, .inl ?_⟩
    have e : (ps.drop k).length = (scanP ps k til).length := Nat.le_antisymm h.le (takeWhile_le _ _)
    rw [← e]
    exact hJb _ _ _ h.j (belowR_putObj _ (by have := HSZ.out; omega) hK def_row)
  case stop =>
    rintro c A h hK
    obtain rfl := h.ret
    gi_wp2
    refine ⟨by simp, .inl ⟨_, _, rfl, run_takeDeferred hK, ?_⟩⟩
    refine ⟨_, results_none rfl _ _ _, ⟨_, rfl⟩, ?_⟩
    have hb := belowR_putObj (D := m₀) (.deferred none) (by have := HSZ.out; omega) hK def_row
    exact h.j.imp (fun j => hJb _ _ _ j hb) (fun j => hJxb _ _ j hb)
end Go.Proofs.Ytnagknlfboadkaa.Oct

/- Layer 7 (tree): Scan, and what the statements' 'told' makes of it, over a leaf. -/
namespace Go.Proofs.Ytnagknlfboadkaa.Oct
open Go.RowKit Go.Shelf
attribute [local go_sem] Oper.semAt_some

theorem scan_yes (w : World) (m c : Nat) (r : Option Addr) (key til : ByteArray) (h : Mp w m (.pointer r) c) : Calls Try.prog 17 #[.pointer (some ⟨m, 0, none⟩), .string key, .string til] w fun e w' =>
    e = .returned (.func (.func 28) #[] #[.pointer (some ⟨w.heap.size + 2, 0, none⟩), .pointer (some ⟨w.heap.size, 0, none⟩), .pointer (some ⟨w.heap.size + 1, 0, none⟩)]) ∧ Hid (w' = ((w.alloc (.cells #[.string key] 9)).alloc (.cells #[.string til] 9)).alloc (.cells #[.pointer r] 46)) := by
  have hl := h.lt
  have HB : Hid (Below w.heap.size w ((w.alloc (.cells #[.string key] 9)).alloc (.cells #[.string til] 9))) := ((Below.refl _ w).alloc (Nat.le_refl _) _).alloc (by simp) _
  have h2 : Mp ((w.alloc (.cells #[.string key] 9)).alloc (.cells #[.string til] 9)) m (.pointer r) c := h.keep HB.out (Nat.le_refl _)
  have c0 := h2.cell (i := 0) rfl
  have c2 := h2.cell (i := 2) rfl
  clear h h2
  go_enter Try.func17, Try.ntmps17
  go_wp2_with (go_at_call 22; refine (made_is _ m true c2).mono ?_; rintro e w2 ⟨rfl, rfl⟩)
  go_ret
  exact ⟨rfl, rfl⟩
theorem nothing_in (d : Nat) (v : Value) (W : World) : CallsIn Fence.wide d Try.prog 27 #[v] W fun e B => (∃ v, e = .returned v) ∧ B = W := by
  refine callsIn_of_wp Try.func27 rfl trivial ?_ rfl
  simp only [Try.ntmps27, List.size_toArray, List.length_cons, List.length_nil, Nat.reduceAdd, Nat.reduceSub, Array.replicate_succ, Array.replicate_zero, List.push_toArray, List.append_toArray, List.nil_append, List.cons_append]
  gi_wp2
  go_end0
  exact ⟨⟨_, rfl⟩, rfl⟩
theorem scan_nil (w : World) (key til : ByteArray) : Calls Try.prog 17 #[.pointer none, .string key, .string til] w fun e w' => e = .returned (.func (.func 27) #[] #[]) ∧ Below w.heap.size w w' := by
  go_enter Try.func17, Try.ntmps17
  go_wp2_with (go_at_call 22; refine (made_nil _).mono ?_; rintro e w2 ⟨rfl, rfl⟩)
  go_ret
  exact ⟨rfl, ((Below.refl _ w).alloc (Nat.le_refl _) _).alloc (by simp) _⟩
theorem scan_no (w : World) (m : Nat) (key til : ByteArray) (h : w.cell? ⟨m, 2, none⟩ = some (.bool false)) : Calls Try.prog 17 #[.pointer (some ⟨m, 0, none⟩), .string key, .string til] w fun e w' => e = .returned (.func (.func 27) #[] #[]) ∧ Below w.heap.size w w' := by
  have hl := World.block_lt_of_cell? w _ h
  have HB : Hid (Below w.heap.size w ((w.alloc (.cells #[.string key] 9)).alloc (.cells #[.string til] 9))) := ((Below.refl _ w).alloc (Nat.le_refl _) _).alloc (by simp) _
  have c2 : ((w.alloc (.cells #[.string key] 9)).alloc (.cells #[.string til] 9)).cell? ⟨m, 2, none⟩ = some (.bool false) := (HB.out.cell (p := ⟨m, 2, none⟩) hl).trans h
  go_enter Try.func17, Try.ntmps17
  go_wp2_with (go_at_call 22; refine (made_is _ m false c2).mono ?_; rintro e w2 ⟨rfl, rfl⟩)
  go_ret
  exact ⟨rfl, HB.out⟩
theorem not_nil28 (l : Array Value) (W : World) : (binOp BinOp.eql 37 (Value.func (Fn.func 28) #[] l) Value.nilFunc).run Try.prog W = .ok (.bool false) W := by
  first | rfl | kernel_rfl | simp [binOp, go_sem]
theorem not_nil27 (W : World) : (binOp BinOp.eql 37 (Value.func (Fn.func 27) #[] #[]) Value.nilFunc).run Try.prog W = .ok (.bool false) W := by
  first | rfl | kernel_rfl | simp [binOp, go_sem]

/-- between two rounds of 'told' -/
structure TInv (w : World) (nd : Nat) (key til : ByteArray) (ys : List Pr) (s : Nat) (A : World) : Prop where
  be : Below w.heap.size w A
  out : ∃ v, A.heap[w.heap.size]? = some (.cells #[v] 27) ∧ A.ownsRow (w.heap.size + 4) 40 2 v s ((ys.take s).flatMap pc)
  fr : A.heap[w.heap.size + 1]? = some (.cells #[.string key] 9)
  un : A.heap[w.heap.size + 2]? = some (.cells #[.string til] 9)
  ro : A.heap[w.heap.size + 3]? = some (.cells #[.pointer (some ⟨nd, 0, none⟩)] 46)
  le : w.heap.size + 4 ≤ A.heap.size
theorem own_below {w w' : World} {B C : Nat} {v : Value} {n : Nat} {xs : List Value} (h : w.ownsRow B 40 2 v n xs) (hb : Below C w w') (hC : w.heap.size ≤ C) : w'.ownsRow B 40 2 v n xs := by
  refine ⟨h.1, ?_⟩
  rcases h.2 with h2 | ⟨g, cap, cur, e, h3, h4, h5⟩
  · exact .inl h2
  · exact .inr ⟨g, cap, cur, e, h3, (hb.block g (Nat.lt_of_lt_of_le (lt_of_block h4) hC)).trans h4, h5⟩
theorem own_set {w : World} {B b : Nat} {v u : Value} {n : Nat} {xs : List Value} (h : w.ownsRow B 40 2 v n xs) (hb : b < B) : (w.setCell ⟨b, 0, none⟩ u).ownsRow B 40 2 v n xs := by
  refine ⟨h.1, ?_⟩
  rcases h.2 with h2 | ⟨g, cap, cur, e, h3, h4, h5⟩
  · exact .inl h2
  · exact .inr ⟨g, cap, cur, e, h3, by rw [heap_setCell_other w ⟨b, 0, none⟩ g u (by simp; omega)]; exact h4, h5⟩

theorem own_rows {w w' : World} {B C : Nat} {v : Value} {n : Nat} {xs : List Value} (h : w.ownsRow B 40 2 v n xs) (hb : BelowR C w w') : w'.ownsRow B 40 2 v n xs := by
  refine ⟨h.1, ?_⟩
  rcases h.2 with h2 | ⟨g, cap, cur, e, h3, h4, h5⟩
  · exact .inl h2
  · exact .inr ⟨g, cap, cur, e, h3, (hb.rows g (lt_of_block h4) ⟨cur, _, h4⟩).trans h4, h5⟩
theorem own_mono {w : World} {B B' : Nat} {v : Value} {n : Nat} {xs : List Value} (h : w.ownsRow B 40 2 v n xs) (hb : B' ≤ B) : w.ownsRow B' 40 2 v n xs := by
  refine ⟨h.1, ?_⟩
  rcases h.2 with h2 | ⟨g, cap, cur, e, h3, h4⟩
  · exact .inl h2
  · exact .inr ⟨g, cap, cur, e, Nat.le_trans hb h3, h4⟩
theorem own_shape {w : World} {B : Nat} {v : Value} {n : Nat} {xs : List Value} (h : w.ownsRow B 40 2 v (n + 1) xs) : ∃ g cap, v = .slice (some ⟨g, 0, none⟩) (n + 1) cap := by
  rcases h.2 with ⟨_, e⟩ | ⟨g, cap, cur, e, _⟩
  · omega
  · exact ⟨g, cap, e⟩
theorem told_box {A w' : World} {b n : Nat} {v : Value} {o : Obj} {B : Nat} {xs : List Value} (hv : A.heap[b]? = some (.cells #[v] 27)) (ho : A.ownsRow B 40 2 v n xs) (hg : (A.alloc o).grownBy w' v.ownBlock) (hb : b < B) : w'.heap[b]? = some (.cells #[v] 27) := by
  have hlt := lt_of_block hv
  refine (hg.block b (by simp; omega) fun e => ?_).trans ((Below.heap_alloc A o b hlt).trans hv)
  have := (ho.lt b e.symm).1
  omega
theorem TInv.step {w A w' : World} {nd s : Nat} {key til : ByteArray} {ys : List Pr} {x : Pr} {v v' : Value} (h : TInv w nd key til ys s A) (hv : A.heap[w.heap.size]? = some (.cells #[v] 27)) (ho : A.ownsRow (w.heap.size + 4) 40 2 v s ((ys.take s).flatMap pc)) (hx : ys[s]? = some x)
    (hg : (A.alloc (.cells #[.string x.1, .string x.2] 40)).grownBy w' v.ownBlock) (ho' : w'.ownsRow (w.heap.size + 4) 40 2 v' (s + 1) ((ys.take s).flatMap pc ++ pc x)) :
    TInv w nd key til ys (s + 1) (w'.setCell ⟨w.heap.size, 0, none⟩ v') ∧ Held (w.heap.size + 4) A (w'.setCell ⟨w.heap.size, 0, none⟩ v') := by
  have hrow : ∀ b, v.ownBlock = some b → w.heap.size + 4 ≤ b ∧ RowAt A b := by
    intro b hb
    rcases ho.2 with ⟨rfl, _⟩ | ⟨g, cap, cur, rfl, h3, h4, _⟩
    · cases hb
    · have : g = b := by simpa [Value.ownBlock] using hb
      subst this
      exact ⟨h3, cur, (0, 0), h4⟩
  have old : ∀ b, b < A.heap.size → some b ≠ v.ownBlock → w'.heap[b]? = A.heap[b]? := fun b hb hne =>
    (hg.block b (by simp; omega) hne).trans (Below.heap_alloc A _ b hb)
  have low : ∀ b, b < w.heap.size + 4 → w'.heap[b]? = A.heap[b]? := fun b hb => old b (by have := h.le; omega) (fun e => by have := (hrow b e.symm).1; omega)
  have low' : ∀ b, b < w.heap.size + 4 → b ≠ w.heap.size → (w'.setCell ⟨w.heap.size, 0, none⟩ v').heap[b]? = A.heap[b]? := fun b hb hne => by
    rw [heap_setCell_other w' ⟨w.heap.size, 0, none⟩ b v' hne]; exact low b hb
  have hsz : A.heap.size ≤ w'.heap.size := Nat.le_trans (by simp) hg.size
  have hlt := (List.getElem?_eq_some_iff.1 hx).1
  refine ⟨⟨?_, ⟨v', ?_, ?_⟩, ?_, ?_, ?_, ?_⟩, ?_, ?_⟩
  · refine ⟨hg.os.trans h.be.os, hg.tape.trans h.be.tape, hg.output.trans h.be.output, by simp; have := h.be.size; omega, fun b hb => ?_⟩
    rw [low' b (by omega) (by omega)]; exact h.be.block b hb
  · have e := low w.heap.size (by omega)
    rw [hv] at e
    have := heap_setCell_same w' w.heap.size 0 _ 27 v' e
    simpa using this
  · have e : ys.take (s + 1) = ys.take s ++ [x] := by rw [List.take_add_one, hx]; rfl
    rw [e, List.flatMap_append]
    exact own_set (by simpa using ho') (by omega)
  · rw [low' _ (by omega) (by omega)]; exact h.fr
  · rw [low' _ (by omega) (by omega)]; exact h.un
  · rw [low' _ (by omega) (by omega)]; exact h.ro
  · simp; have := h.le; omega
  · simp; exact hsz
  · intro b h1 h2 h3
    rw [heap_setCell_other w' ⟨w.heap.size, 0, none⟩ b v' (by show b ≠ w.heap.size; omega)]
    exact old b h1 (fun e => h3 (hrow b e.symm).2)

set_option maxRecDepth 100000 in
set_option maxHeartbeats 2000000 in
theorem told_yes (w : World) (m nd n cap c : Nat) (a : Option Addr) (ps : List Pr) (key til : ByteArray) (k : Nat) (hmp : Mp w m (.pointer (some ⟨nd, 0, none⟩)) c) (hnd : Nd w nd a n cap ps (.slice none 0 0)) (hn : n ≤ 1000000) (hm : Mono ps key) (ha : AtP ps key k) :
    Calls Try.prog 13 #[.pointer (some ⟨m, 0, none⟩), .string key, .string til] w fun e w' => ∃ v, e = .returned v ∧ Hid (w'.ownsRow w.heap.size 40 2 v (scanP ps k til).length ((scanP ps k til).flatMap pc)) ∧ Hid (Below w.heap.size w w') := by
  have HN : Hid (Nd w nd a n cap ps (.slice none 0 0) ∧ n ≤ 1000000 ∧ Mono ps key ∧ AtP ps key k) := ⟨hnd, hn, hm, ha⟩
  have HM : Hid (Mp w m (.pointer (some ⟨nd, 0, none⟩)) c) := hmp
  clear hmp hnd hn hm ha
  obtain ⟨ys, hys⟩ : ∃ ys, scanP ps k til = ys := ⟨_, rfl⟩
  rw [hys]
  have HYS : Hid (scanP ps k til = ys) := hys
  have HLY : Hid (ys.length ≤ 1000000) := by
    show _ ≤ _
    have h1 := takeWhile_le (okS til) (ps.drop k)
    have h2 := HN.out.1.rd.1
    have h3 := HN.out.2.1
    rw [← hys, scanP]
    rw [List.length_drop] at h1
    omega
  clear hys
  refine (callsIn_wide (n := 3)).1 ?_
  refine callsIn_of_wp_marks Try.func13 rfl trivial ?_ rfl
  simp only [Try.ntmps13, List.size_toArray, List.length_cons, List.length_nil, Nat.reduceAdd, Nat.reduceSub, Array.replicate_succ, Array.replicate_zero, List.push_toArray, List.append_toArray, List.nil_append, List.cons_append]
  have HB0 : Hid (Below w.heap.size w (w.alloc (.cells #[.slice none 0 0] 27))) := (Below.refl _ w).alloc (Nat.le_refl _) _
  have nn := not_nil28
  gi_wp2_with (refine ⟨trivial, ?_⟩; gi_at_call 17; refine (callsIn_wide.2 (scan_yes _ m c _ key til (HM.out.keep HB0.out (Nat.le_refl _)))).mono ?_; rintro e w1 ⟨rfl, HW1⟩)
  have hw1 := HW1.out
  have HS1 : Hid (w1.heap.size = w.heap.size + 4) := by show _ = _; rw [hw1]; simp
  have HI0 : Hid (TInv w nd key til ys 0 w1) := by
    have b0 : w1.heap[w.heap.size]? = some (.cells #[.slice none 0 0] 27) := by
      rw [hw1, Below.heap_alloc _ _ _ (by simp; omega), Below.heap_alloc _ _ _ (by simp; omega), Below.heap_alloc _ _ _ (by simp)]
      exact World.alloc_heap_new w _
    have b1 : w1.heap[w.heap.size + 1]? = some (.cells #[.string key] 9) := by
      have e := World.alloc_heap_new (w.alloc (.cells #[.slice none 0 0] 27)) (.cells #[.string key] 9)
      rw [World.size_alloc] at e
      rw [hw1, Below.heap_alloc _ _ _ (by simp), Below.heap_alloc _ _ _ (by simp)]
      exact e
    have b2 : w1.heap[w.heap.size + 2]? = some (.cells #[.string til] 9) := by
      have e := World.alloc_heap_new ((w.alloc (.cells #[.slice none 0 0] 27)).alloc (.cells #[.string key] 9)) (.cells #[.string til] 9)
      rw [World.size_alloc, World.size_alloc] at e
      rw [hw1, Below.heap_alloc _ _ _ (by simp)]
      exact e
    have b3 : w1.heap[w.heap.size + 3]? = some (.cells #[.pointer (some ⟨nd, 0, none⟩)] 46) := by
      have e := World.alloc_heap_new (((w.alloc (.cells #[.slice none 0 0] 27)).alloc (.cells #[.string key] 9)).alloc (.cells #[.string til] 9)) (.cells #[.pointer (some ⟨nd, 0, none⟩)] 46)
      rw [World.size_alloc, World.size_alloc, World.size_alloc] at e
      rw [hw1]
      exact e
    refine ⟨?_, ⟨_, b0, World.ownsRow_nil _ _ _ _⟩, b1, b2, b3, Nat.le_of_eq HS1.out.symm⟩
    rw [hw1]
    exact (((HB0.out.alloc (by simp) _).alloc (by simp; omega) _).alloc (by simp; omega) _)
  clear hw1 HW1 HB0 nn
  obtain ⟨i0, hi0, hii⟩ := Option.map_eq_some_iff.1 info40
  simp only [Prod.mk.injEq] at hii
  refine rangeLeave (gf := 28) (lb := #[.pointer (some ⟨w.heap.size + 1 + 2, 0, none⟩), .pointer (some ⟨w.heap.size + 1, 0, none⟩), .pointer (some ⟨w.heap.size + 1 + 1, 0, none⟩)]) rfl (enters_of Try.func28 (by kernel_rfl) rfl) (fun _ x => encQ x) (fun _ _ => rfl) ys
    (TInv w nd key til ys) (fun _ _ => False) ?hI (fun _ _ _ h _ => h) HI0.out
    (fun _ x => { tmps := #[.pointer (some ⟨m, 0, none⟩), .string key, .string til, undef, undef, undef, .slice none 0 0, .pointer (some ⟨w.heap.size, 0, none⟩), .func (.func 28) #[] #[.pointer (some ⟨w.heap.size + 1 + 2, 0, none⟩), .pointer (some ⟨w.heap.size + 1, 0, none⟩), .pointer (some ⟨w.heap.size + 1 + 1, 0, none⟩)], .string x.1, .string x.2, .pointer (some ⟨m, 0, none⟩), .string key, .string til, .func (.func 28) #[] #[.pointer (some ⟨w.heap.size + 1 + 2, 0, none⟩), .pointer (some ⟨w.heap.size + 1, 0, none⟩), .pointer (some ⟨w.heap.size + 1 + 1, 0, none⟩)], .func (.func 28) #[] #[.pointer (some ⟨w.heap.size + 1 + 2, 0, none⟩), .pointer (some ⟨w.heap.size + 1, 0, none⟩), .pointer (some ⟨w.heap.size + 1 + 1, 0, none⟩)], .bool false, .func (.func 28) #[] #[.pointer (some ⟨w.heap.size + 1 + 2, 0, none⟩), .pointer (some ⟨w.heap.size + 1, 0, none⟩), .pointer (some ⟨w.heap.size + 1 + 1, 0, none⟩)], .string x.1, .string x.2, undef, undef, undef, undef, undef, undef, undef], defers := [] }) ?assign ?body ?iter ?done ?stop
  case hI =>
    rintro t A B h hb
    rw [HS1.out] at hb
    obtain ⟨v, h1, h2⟩ := h.out
    exact ⟨h.be.trans (hb.below.mono (by omega)), ⟨v, (hb.below.block _ (by omega)).trans h1, own_rows h2 hb⟩, (hb.below.block _ (by omega)).trans h.fr, (hb.below.block _ (by omega)).trans h.un, (hb.below.block _ (by omega)).trans h.ro, Nat.le_trans h.le hb.below.size⟩
  case assign =>
    intro t x A K hK
    dsimp only [encQ]
    gi_wp2
    exact hK
  case body =>
    rintro t x A h hx hlt
    obtain ⟨v, h1, h2⟩ := h.out
    have HI : Hid (TInv w nd key til ys t A) := h
    have HX : Hid (ys[t]? = some x) := hx
    have HV : Hid (A.heap[w.heap.size]? = some (.cells #[v] 27)) := h1
    have HO : Hid (A.ownsRow (w.heap.size + 4) 40 2 v t ((ys.take t).flatMap pc)) := h2
    have cv := cell_one h1
    have HL : Hid (t < ys.length) := (List.getElem?_eq_some_iff.1 hx).1
    have hlw : w.heap.size < A.heap.size := by have := h.le; omega
    have HC : Hid (∀ j u, (pc x)[j]? = some u → (A.alloc (.cells #[.string x.1, .string x.2] 40)).cell? ((⟨A.heap.size, 0, none⟩ : Addr).add j) = some u) := by
      intro j u hu
      rw [Addr.add_lit, Nat.zero_add]
      exact (Blk.new A #[.string x.1, .string x.2] 40).cell hu
    have HOA : Hid ((A.alloc (.cells #[.string x.1, .string x.2] 40)).ownsRow (w.heap.size + 4) 40 2 v t ((ys.take t).flatMap pc)) := own_below h2 ((Below.refl A.heap.size A).alloc (Nat.le_refl _) _) (Nat.le_refl _)
    clear h hx h1 h2 hlt
    gi_wp2_with (
      with_reducible change wpListIn _ _ _ _ _ ({ dst := some 25, op := _, type := _, pos := _, after := _, guard := _ } :: _) _ _
      refine wpListIn_append_own (A.alloc (.cells #[.string x.1, .string x.2] 40)) rfl (.tmp 20) (.tmp 24) 27 rfl (w.heap.size + 4) 40 i0 _ 2 32 Try.underlying27 hi0 hii.1 hii.2.1 hii.2.2 rfl (by omega) v t _ rfl HOA.out ⟨A.heap.size, 0, none⟩ 1 1 (pc x) rfl rfl HC.out (by intro u hu; simp only [pc, List.mem_cons, List.not_mem_nil, or_false] at hu; rcases hu with rfl | rfl <;> rfl) (by have := HL.out; have := HLY.out; unfold maxLen; omega) (by have := HL.out; have := HLY.out; omega) (by have := HI.out.le; simp; omega) ?_
      intro v' w' ho' hg' hn'
      obtain ⟨g', cap', rfl⟩ := own_shape ho'
      have HO' : Hid (w'.ownsRow (w.heap.size + 4) 40 2 (.slice (some ⟨g', 0, none⟩) (t + 1) cap') (t + 1) ((ys.take t).flatMap pc ++ pc x)) := ho'
      have HG' : Hid ((A.alloc (.cells #[.string x.1, .string x.2] 40)).grownBy w' v.ownBlock) := hg'
      have hv' := told_box HV.out HO.out hg' (by omega)
      have cw := cell_one hv'
      have fw : w'.frozen? ⟨w.heap.size, 0, none⟩ = false := frozen_of_row w' w.heap.size 0 _ 27 hv'
      clear ho' hg' hn' hv')
    have hE := TInv.step HI.out HV.out HO.out HX.out HG'.out HO'.out
    exact ⟨hE.1, by rw [HS1.out]; exact hE.2⟩
  case iter =>
    intro J' Jx' A hS hB hJ'b hJx'b hJ'I hJ'X hY' h0'
    have := scan2_in 2 (w1.heap.size + 1) (w.heap.size + 1 + 2) (w.heap.size + 1) (w.heap.size + 1 + 1) nd n cap a ps key til k HN.out.2.1 HN.out.2.2.1 HN.out.2.2.2 (w1.heap.size + 2) J' Jx' hJ'b hJx'b ?_ ?_ ?_ A hS h0'
    · rw [HYS.out] at this; exact this
    · intro A hA
      obtain ⟨⟨c, hc⟩, _⟩ := hJ'X A hA
      exact hc.elim
    · intro t A hA
      obtain ⟨hI, hsz⟩ := hJ'I t A hA
      exact ⟨cell_one hI.ro, cell_one hI.fr, cell_one hI.un, HN.out.1.below hI.be (Nat.le_refl _), hsz⟩
    · intro t x A hj hx
      rw [HYS.out] at hx
      exact YieldAt.deep 0 (hY' t x A hj hx)
  case done =>
    rintro A h hK
    obtain ⟨v, h1, h2⟩ := h.out
    have HI : Hid (TInv w nd key til ys ys.length A) := h
    have HO : Hid (A.ownsRow (w.heap.size + 4) 40 2 v ys.length ((ys.take ys.length).flatMap pc)) := h2
    have cv := cell_one h1
    have HK : Hid (A.heap[w1.heap.size]? = some (.deferred (some []))) := hK
    clear h h1 h2 hK
    gi_wp2
    refine ⟨by simp, .inl ⟨_, _, rfl, run_takeDeferred HK.out, ?_⟩⟩
    refine ⟨_, results_tmp rfl _ _ _, v, rfl, ?_, HI.out.be.trans (below_putObj _ A _ _ (by have := HS1.out; omega))⟩
    have e := HO.out
    rw [List.take_length] at e
    exact own_mono (own_rows e (belowR_putObj (D := w.heap.size) _ (by have := HS1.out; omega) HK.out def_row)) (by omega)
  case stop => rintro c A h; exact h.elim
end Go.Proofs.Ytnagknlfboadkaa.Oct

/- Layer 7 (tree): the reference's 'Same' of two lists that are the same; 'told' of a map that no call made; the statements' 'lives'. -/
namespace Go.Proofs.Ytnagknlfboadkaa.Oct
open Go.RowKit Go.Shelf
attribute [local go_sem] Oper.semAt_some

set_option maxRecDepth 100000 in
theorem same_is (w : World) (g off c g2 off2 c2 n : Nat) (ps : List Pr) (h : RdP w (some ⟨g, off, none⟩) n ps) (h2 : RdP w (some ⟨g2, off2, none⟩) n ps) (hn : n ≤ 1000000) :
    Calls Try.prog 12 #[.slice (some ⟨g, off, none⟩) n c, .slice (some ⟨g2, off2, none⟩) n c2] w fun e w' => e = .returned (.bool true) ∧ Below w.heap.size w w' := by
  have HR : Hid (RdP w (some ⟨g, off, none⟩) n ps ∧ RdP w (some ⟨g2, off2, none⟩) n ps ∧ n ≤ 1000000) := ⟨h, h2, hn⟩
  clear h h2 hn
  go_enter Try.func12, Try.ntmps12
  go_wp2
  go_loopw [5] (fun u wr => ∃ i : Nat, u = .int .i64 (i : Int) ∧ Hid (i ≤ n) ∧ Hid (Below w.heap.size w wr)) (fun u _ => n - (intOf u).toNat)
  case atStart => exact ⟨0, rfl, Nat.zero_le _, Below.refl _ _⟩
  case round =>
    obtain ⟨i, rfl, HI, HB⟩ := hrel
    by_cases hi : i < n
    · obtain ⟨x, hx⟩ : ∃ x, ps[i]? = some x := ⟨_, List.getElem?_eq_getElem (by rw [HR.out.1.1]; exact hi)⟩
      obtain ⟨_, _, e1, hg1, hc1⟩ := HR.out.1.2 (by omega)
      cases e1
      obtain ⟨_, _, e2, hg2, hc2⟩ := HR.out.2.1.2 (by omega)
      cases e2
      have a0 : wr.cell? ⟨g, off + i * 2, none⟩ = some (.string x.1) := (HB.out.cell (p := ⟨g, _, none⟩) hg1.lt).trans (hc1 i x hx).1
      have a1 : wr.cell? ⟨g, off + i * 2 + 1, none⟩ = some (.string x.2) := (HB.out.cell (p := ⟨g, _, none⟩) hg1.lt).trans (hc1 i x hx).2
      have b0 : wr.cell? ⟨g2, off2 + i * 2, none⟩ = some (.string x.1) := (HB.out.cell (p := ⟨g2, _, none⟩) hg2.lt).trans (hc2 i x hx).1
      have b1 : wr.cell? ⟨g2, off2 + i * 2 + 1, none⟩ = some (.string x.2) := (HB.out.cell (p := ⟨g2, _, none⟩) hg2.lt).trans (hc2 i x hx).2
      have q1 : (i : Int) < (n : Int) := by omega
      have q2 : (n : Int) ≤ 1000000 := by have := HR.out.2.2; omega
      have HL : Hid (i < n) := hi
      generalize x.1 = x1 at *
      generalize x.2 = x2 at *
      clear hc1 hc2 hx hi hg1 hg2
      go_wp2
      go_quiet (fail)
      go_wp2
      go_roundw
      case rel => exact ⟨i + 1, by simp, HL.out, below_drewN HB.out _⟩
      case measure => have := HL.out; simp [intOf]; omega
    · have q1 : ¬ (i : Int) < (n : Int) := by omega
      go_wp2
      go_ret
      exact ⟨rfl, HB.out⟩

set_option maxRecDepth 100000 in
set_option maxHeartbeats 2000000 in
theorem told_none (w : World) (p : Option Addr) (key til : ByteArray) (hsc : ∀ W, Below w.heap.size w W → Calls Try.prog 17 #[.pointer p, .string key, .string til] W fun e w' => e = .returned (.func (.func 27) #[] #[]) ∧ Below W.heap.size W w') :
    Calls Try.prog 13 #[.pointer p, .string key, .string til] w fun e w' => e = .returned (.slice none 0 0) ∧ Hid (Below w.heap.size w w') := by
  have HSC : Hid (∀ W, Below w.heap.size w W → Calls Try.prog 17 #[.pointer p, .string key, .string til] W fun e w' => e = .returned (.func (.func 27) #[] #[]) ∧ Below W.heap.size W w') := hsc
  clear hsc
  refine (callsIn_wide (n := 3)).1 ?_
  refine callsIn_of_wp_marks Try.func13 rfl trivial ?_ rfl
  simp only [Try.ntmps13, List.size_toArray, List.length_cons, List.length_nil, Nat.reduceAdd, Nat.reduceSub, Array.replicate_succ, Array.replicate_zero, List.push_toArray, List.append_toArray, List.nil_append, List.cons_append]
  have HB0 : Hid (Below w.heap.size w (w.alloc (.cells #[.slice none 0 0] 27))) := (Below.refl _ w).alloc (Nat.le_refl _) _
  have nn := not_nil27
  gi_wp2_with (refine ⟨trivial, ?_⟩; gi_at_call 17; refine (callsIn_wide.2 (HSC.out _ HB0.out)).mono ?_; rintro e w1 ⟨rfl, hB1⟩; have HB1 := hB1; clear hB1)
  have hb1 : w1.heap[w.heap.size]? = some (.cells #[.slice none 0 0] 27) := (HB1.block _ (by simp)).trans (World.alloc_heap_new w _)
  have hB1 : Below w.heap.size w w1 := HB0.out.trans (HB1.mono (by simp))
  have hS1 : w.heap.size < w1.heap.size := lt_of_block hb1
  refine rangeLeave (X := Empty) (gf := 27) (lb := #[]) rfl (enters_of Try.func27 (by kernel_rfl) rfl) (fun _ x => x.elim) (fun _ x => x.elim) []
    (fun _ A => Below w.heap.size w A ∧ A.heap[w.heap.size]? = some (.cells #[.slice none 0 0] 27)) (fun _ _ => False) (fun t A B h hb => ⟨h.1.trans (hb.below.mono (by omega)), (hb.below.block _ (by omega)).trans h.2⟩) (fun _ _ _ h _ => h) ⟨hB1, hb1⟩ (fun _ x => x.elim) (fun _ x => x.elim) (fun _ x => x.elim) ?iter ?done ?stop
  case iter =>
    intro J' Jx' A hS hB hJ'b hJx'b hJ'I hJ'X hY' h0'
    refine (nothing_in _ _ A).mono ?_
    rintro e B ⟨h, rfl⟩
    exact ⟨h, .inl h0'⟩
  case done =>
    rintro A ⟨h1, h2⟩ hK
    have cv := cell_one h2
    have HK : Hid (A.heap[w1.heap.size]? = some (.deferred (some []))) := hK
    have HA : Hid (Below w.heap.size w A) := h1
    clear h1 h2 hK
    gi_wp2
    refine ⟨by simp, .inl ⟨_, _, rfl, run_takeDeferred HK.out, ?_⟩⟩
    exact ⟨_, results_tmp rfl _ _ _, rfl, HA.out.trans (below_putObj _ A _ _ (by omega))⟩
  case stop => rintro c A h; exact h.elim

def sA : ByteArray := ⟨#[97]⟩
def sB : ByteArray := ⟨#[98]⟩
def s1 : ByteArray := ⟨#[49]⟩
def s2 : ByteArray := ⟨#[50]⟩
def s3 : ByteArray := ⟨#[51]⟩
theorem toList_is (s : ByteArray) : s.toList = s.data.toList := ByteArray.toList_eq s
theorem lA : sA.toList = [97] := toList_is _
theorem lB : sB.toList = [98] := toList_is _
theorem l0 : (⟨#[]⟩ : ByteArray).toList = [] := toList_is _
theorem geBA : geS sB sA = true := by rw [geS, lA, lB]; decide
theorem geAA : geS sA sA = true := by rw [geS, lA]; decide
theorem geAB : geS sA sB = false := by rw [geS, lA, lB]; decide
theorem geBB : geS sB sB = true := by rw [geS, lB]; decide
theorem geA0 : geS sA ⟨#[]⟩ = true := by rw [geS, lA, l0]; decide
theorem geB0 : geS sB ⟨#[]⟩ = true := by rw [geS, lB, l0]; decide
theorem mono_all {ps : List Pr} {key : ByteArray} (h : ∀ x ∈ ps, geS x.1 key = true) : Mono ps key := fun _ _ _ y _ _ hj _ => h y (List.mem_of_getElem? hj)
theorem at_all {ps : List Pr} {key : ByteArray} (h : ∀ x ∈ ps, geS x.1 key = true) : AtP ps key 0 := ⟨Nat.zero_le _, fun i x hi _ => absurd hi (by omega), fun i x _ hx => h x (List.mem_of_getElem? hx)⟩
theorem all1 : ∀ x ∈ [(sB, s1)], geS x.1 sA = true := by
  intro x hx
  rw [List.mem_singleton.1 hx]; exact geBA
theorem all2 (v : ByteArray) : ∀ x ∈ [(sA, v), (sB, s1)], geS x.1 sA = true := by
  intro x hx
  rcases List.mem_cons.1 hx with rfl | hx
  · exact geAA
  · rw [List.mem_singleton.1 hx]; exact geBA
theorem all0 (v : ByteArray) : ∀ x ∈ [(sA, v), (sB, s1)], geS x.1 ⟨#[]⟩ = true := by
  intro x hx
  rcases List.mem_cons.1 hx with rfl | hx
  · exact geA0
  · rw [List.mem_singleton.1 hx]; exact geB0
theorem ne_BA : (sB.toList == sA.toList) = false := by rw [lA, lB]; decide
theorem eq_AA : (sA.toList == sA.toList) = true := by rw [lA]; decide
theorem putp2 : putP [(sB, s1)] (sA, s2) 0 = [(sA, s2), (sB, s1)] := by
  have : isP [(sB, s1)] sA 0 = false := ne_BA
  simp [putP, this]
theorem putp3 : putP [(sA, s2), (sB, s1)] (sA, s3) 0 = [(sA, s3), (sB, s1)] := by
  have : isP [(sA, s2), (sB, s1)] sA 0 = true := eq_AA
  simp [putP, this]
theorem scan3 : scanP [(sA, s3), (sB, s1)] 0 sB = [(sA, s3)] := by
  have e : sB.toList.isEmpty = false := by rw [lB]; rfl
  have h1 : okS sB (sA, s3) = true := by simp [okS, e, geAB]
  have h2 : okS sB (sB, s1) = false := by simp [okS, e, geBB]
  simp [scanP, h1, h2]

theorem put1 (w : World) (m : Nat) (h : Mp w m (.pointer none) 0) : Calls Try.prog 19 #[.pointer (some ⟨m, 0, none⟩), .string ⟨#[98]⟩, .string ⟨#[49]⟩] w fun e w' => e = .returned (.bool false) ∧ Hid (Putd w w' m 1 [(sB, s1)]) := by
  refine (mput_nil w m (sB, s1) h).mono ?_
  rintro e w' ⟨nd, g, rfl, h1, h2, h3⟩
  exact ⟨rfl, nd, g, 1, 1, h1, h2, h3.out.1, h3.out.2, Nat.le_refl _⟩
theorem put2 (w0 w : World) (m : Nat) (h : Putd w0 w m 1 [(sB, s1)]) : Calls Try.prog 19 #[.pointer (some ⟨m, 0, none⟩), .string ⟨#[97]⟩, .string ⟨#[50]⟩] w fun e w' => e = .returned (.bool false) ∧ Hid (Putd w w' m 2 [(sA, s2), (sB, s1)]) := by
  obtain ⟨nd, g, cap, N, h1, h2, h3, h4, h5⟩ := h
  have hN : N = 1 := h2.rd.1.symm
  subst hN
  refine (mput_leaf w m nd g 0 1 cap 1 _ (sA, s2) h1 h2 (mono_all all1) (by omega) h5 (by omega) false 0 (at_all all1) ne_BA).mono ?_
  rintro e w' ⟨rfl, h6⟩
  rw [putp2] at h6
  exact ⟨rfl, h6⟩
theorem put3 (w0 w : World) (m : Nat) (h : Putd w0 w m 2 [(sA, s2), (sB, s1)]) : Calls Try.prog 19 #[.pointer (some ⟨m, 0, none⟩), .string ⟨#[97]⟩, .string ⟨#[51]⟩] w fun e w' => e = .returned (.bool true) ∧ Hid (Putd w w' m 2 [(sA, s3), (sB, s1)]) := by
  obtain ⟨nd, g, cap, N, h1, h2, h3, h4, h5⟩ := h
  have hN : N = 2 := h2.rd.1.symm
  subst hN
  refine (mput_leaf w m nd g 0 2 cap 2 _ (sA, s3) h1 h2 (mono_all (all2 s2)) (by omega) h5 (by omega) true 0 (at_all (all2 s2)) eq_AA).mono ?_
  rintro e w' ⟨rfl, h6⟩
  rw [putp3] at h6
  exact ⟨rfl, h6⟩
theorem len3 (w0 w : World) (m c : Nat) (ps : List Pr) (h : Putd w0 w m c ps) : Calls Try.prog 15 #[.pointer (some ⟨m, 0, none⟩)] w fun e w' => e = .returned (.int .i64 (c : Int)) ∧ w = w' := by
  obtain ⟨nd, g, cap, N, h1, h2, h3, h4, h5⟩ := h
  exact len_is w m _ c h1
theorem depth3 (w0 w : World) (m c : Nat) (ps : List Pr) (h : Putd w0 w m c ps) : Calls Try.prog 20 #[.pointer (some ⟨m, 0, none⟩)] w fun e w' => e = .returned (.int .i64 1) ∧ w = w' := by
  obtain ⟨nd, g, cap, N, h1, h2, h3, h4, h5⟩ := h
  exact depth_is w m nd c h1 (h2.blk.cell (i := 1) rfl)
theorem Putd.keep {w0 w w' : World} {m c : Nat} {ps : List Pr} (h : Putd w0 w m c ps) (hb : Below w.heap.size w w') : Putd w0 w' m c ps := by
  obtain ⟨nd, g, cap, N, h1, h2, h3, h4, h5⟩ := h
  exact ⟨nd, g, cap, N, h1.keep hb (Nat.le_refl _), h2.below hb (Nat.le_refl _), grown_tr h3 (below_grown hb _), h4, h5⟩
theorem get3 (w0 w : World) (m : Nat) (h : Putd w0 w m 2 [(sA, s3), (sB, s1)]) : Calls Try.prog 21 #[.pointer (some ⟨m, 0, none⟩), .string ⟨#[97]⟩] w fun e w' => e = .returned (.tuple #[.string ⟨#[51]⟩, .bool true]) ∧ Hid (Below w.heap.size w w') := by
  obtain ⟨nd, g, cap, N, h1, h2, h3, h4, h5⟩ := h
  have hN : N = 2 := h2.rd.1.symm
  subst hN
  refine (mget_is w m nd _ 2 cap 2 _ sA h1 h2 (mono_all (all2 s3)) (by omega)).mono ?_
  rintro e w' ⟨k, rfl, h6, h7⟩
  obtain rfl : k = 0 := h6.out.uniq (at_all (all2 s3))
  have e : isP [(sA, s3), (sB, s1)] sA 0 = true := eq_AA
  have e2 : valP [(sA, s3), (sB, s1)] sA 0 = s3 := by simp [valP, e]
  rw [e, e2]
  exact ⟨rfl, h7⟩
theorem told3 (w0 w : World) (m : Nat) (h : Putd w0 w m 2 [(sA, s3), (sB, s1)]) : Calls Try.prog 13 #[.pointer (some ⟨m, 0, none⟩), .string ⟨#[]⟩, .string ⟨#[98]⟩] w fun e w' => ∃ g cap, e = .returned (.slice (some ⟨g, 0, none⟩) 1 cap) ∧ Hid (RdP w' (some ⟨g, 0, none⟩) 1 [(sA, s3)]) ∧ Hid (Below w.heap.size w w') := by
  obtain ⟨nd, g, cap, N, h1, h2, h3, h4, h5⟩ := h
  have hN : N = 2 := h2.rd.1.symm
  subst hN
  refine (told_yes w m nd 2 cap 2 _ _ ⟨#[]⟩ sB 0 h1 h2 (by omega) (mono_all (all0 s3)) (at_all (all0 s3))).mono ?_
  rintro e w' ⟨v, rfl, h6, h7⟩
  rw [scan3] at h6
  obtain ⟨g', cap', rfl, h8, _⟩ := own_rd h6.out (by simp)
  exact ⟨g', cap', rfl, h8, h7⟩

theorem below_put {w a b : World} {m c : Nat} {ps : List Pr} (h : Below w.heap.size w a) (hp : Putd a b m c ps) (hm : w.heap.size ≤ m) : Below w.heap.size w b := by
  obtain ⟨_, _, _, _, _, _, hg, _⟩ := hp
  have := h.size
  exact ⟨hg.os.trans h.os, hg.tape.trans h.tape, hg.output.trans h.output, Nat.le_trans h.size hg.size, fun k hk => (hg.block k (by omega) (fun e => by cases e; omega)).trans (h.block k hk)⟩
set_option maxRecDepth 100000 in
theorem lives_is (w : World) : Calls Try.prog 9 #[] w fun e w' => e = .returned (.bool true) ∧ Hid (Below w.heap.size w w') := by
  go_enter Try.func9, Try.ntmps9
  go_wp2_with fail
  refine (new_is w).mono ?_
  rintro e w1 ⟨rfl, HM1, HB1⟩
  obtain ⟨m, hm⟩ : ∃ m, w.heap.size = m := ⟨_, rfl⟩
  rw [hm] at HM1 ⊢
  have HMM : Hid (w.heap.size = m) := hm
  clear hm
  go_wp2_with fail
  refine (put1 w1 m HM1.out).mono ?_
  rintro e w2 ⟨rfl, HP2⟩
  go_wp2_with fail
  refine (put2 w1 w2 m HP2.out).mono ?_
  rintro e w3 ⟨rfl, HP3⟩
  go_wp2_with fail
  refine (put3 w2 w3 m HP3.out).mono ?_
  rintro e w4 ⟨rfl, HP4⟩
  go_wp2_with fail
  refine (len3 w3 w4 m 2 _ HP4.out).mono ?_
  rintro e w5 ⟨rfl, rfl⟩
  go_wp2_with fail
  refine (depth3 w3 w4 m 2 _ HP4.out).mono ?_
  rintro e w5 ⟨rfl, rfl⟩
  go_wp2_with fail
  refine (get3 w3 w4 m HP4.out).mono ?_
  rintro e w5 ⟨rfl, HB5⟩
  go_wp2_with fail
  refine (told3 w3 w5 m (HP4.out.keep HB5.out)).mono ?_
  rintro e w6 ⟨g6, cap6, rfl, HR6, HB6⟩
  go_wp2_with fail
  have HR7 : Hid (RdP (w6.alloc (Obj.cells #[Value.string { data := #[97] }, Value.string { data := #[51] }] 40)) (some ⟨w6.heap.size, 0, none⟩) 1 [(sA, s3)]) := by
    have hb2 := Blk.new w6 #[.string sA, .string s3] 40
    exact rd_of_cells (ps := [(sA, s3)]) (off := 0) (fun _ => hb2.row) (fun j u hu => by rw [Nat.zero_add]; exact hb2.cell hu)
  have HB7 : Hid (Below w6.heap.size w6 (w6.alloc (Obj.cells #[Value.string { data := #[97] }, Value.string { data := #[51] }] 40))) := (Below.refl _ w6).alloc (Nat.le_refl _) _
  refine (same_is _ g6 0 cap6 w6.heap.size 0 1 1 [(sA, s3)] (HR6.out.below HB7.out (Nat.le_refl _)) HR7.out (by omega)).mono ?_
  rintro e w8 ⟨rfl, hB8⟩
  have HB8 : Hid (Below w6.heap.size w6 w8) := HB7.out.trans (hB8.mono HB7.out.size)
  clear hB8
  go_wp2
  go_ret
  refine ⟨rfl, ?_⟩
  have k1 := HB1.out
  have hmm : w.heap.size ≤ m := Nat.le_of_eq HMM.out
  have k2 := below_put k1 HP2.out hmm
  have k3 := below_put k2 HP3.out hmm
  have k4 := below_put k3 HP4.out hmm
  have k5 := k4.trans (HB5.out.mono k4.size)
  have k6 := k5.trans (HB6.out.mono k5.size)
  exact k6.trans (HB8.out.mono k6.size)
end Go.Proofs.Ytnagknlfboadkaa.Oct

/- Layer 7 (tree): the reference's Find, Get, Same. -/
namespace Go.Proofs.Ytnagknlfboadkaa.Oct
open Go.RowKit

set_option maxRecDepth 100000 in
set_option maxHeartbeats 1000000 in
theorem find_is (w : World) (a : Option Addr) (n cap : Nat) (ps : List Pr) (key : ByteArray) (k : Nat) (h : RdP w a n ps) (ha : AtP ps key k) (hn : n ≤ 1000000) :
    Calls Try.prog 36 #[.slice a n cap, .string key] w fun e w' => e = .returned (.tuple #[.int .i64 (k : Int), .bool (isP ps key k)]) ∧ Hid (Below w.heap.size w w') := by
  have HR : Hid (RdP w a n ps ∧ AtP ps key k ∧ n ≤ 1000000) := ⟨h, ha, hn⟩
  clear h ha hn
  go_enter Try.func36, Try.ntmps36
  go_wp2
  go_loopw [6] (fun u wr => ∃ i : Nat, u = .int .i64 (i : Int) ∧ Hid (i ≤ k) ∧ Hid (w = wr)) (fun u _ => n - (intOf u).toNat)
  case atStart => exact ⟨0, rfl, Nat.zero_le _, rfl⟩
  case round =>
    obtain ⟨i, rfl, HI, HW⟩ := hrel
    have hW := HW.out
    subst hW
    have q2 : (n : Int) ≤ 1000000 := by have := HR.out.2.2; omega
    have hkn : k ≤ n := by have := HR.out.2.1.1; rw [HR.out.1.1] at this; exact this
    by_cases hi : i < n
    · obtain ⟨x, hx⟩ : ∃ x, ps[i]? = some x := ⟨_, List.getElem?_eq_getElem (by rw [HR.out.1.1]; exact hi)⟩
      obtain ⟨g, off, rfl, hg1, hc1⟩ := HR.out.1.2 (by omega)
      have a0 := (hc1 i x hx).1
      have q1 : (i : Int) < (n : Int) := by omega
      have HL : Hid (i < n) := hi
      by_cases hik : i < k
      · have HK : Hid (i < k) := hik
        have hlt : Op.bytesLess x.1.toList key.toList = true := by
          have := HR.out.2.1.2.1 i x hik hx
          unfold geS at this
          simpa using this
        generalize x.1 = x1 at *
        clear hc1 hx hi hg1 hik hkn
        go_wp2
        go_roundw
        case rel => exact ⟨i + 1, by simp, HK.out, trivial⟩
        case measure => have := HL.out; simp [intOf]; omega
      · have hik' : i = k := by have := HI.out; omega
        subst hik'
        have hlt : Op.bytesLess x.1.toList key.toList = false := by
          have := HR.out.2.1.2.2 i x (Nat.le_refl _) hx
          unfold geS at this
          simpa using this
        have HIS : Hid (isP ps key i = (x.1.toList == key.toList)) := by show _ = _; simp only [isP, hx]
        generalize x.1 = x1 at *
        clear hc1 hx hi hg1 hik hkn
        go_wp2
        go_quiet (fail)
        go_wp2
        go_ret2
        exact ⟨by rw [HIS.out]; rfl, below_drewN (Below.refl _ _) _⟩
    · have hik' : i = k := by have := HI.out; omega
      subst hik'
      have q1 : ¬ (i : Int) < (n : Int) := by omega
      have HIS : Hid (isP ps key i = false) := by
        show _ = _
        have : ps[i]? = none := by rw [List.getElem?_eq_none_iff, HR.out.1.1]; omega
        simp only [isP, this]
      clear hkn
      go_wp2
      go_quiet (fail)
      go_wp2
      go_ret2
      exact ⟨by rw [HIS.out]; rfl, below_drewN (Below.refl _ _) _⟩

theorem rget_is (w : World) (a : Option Addr) (n cap : Nat) (ps : List Pr) (key : ByteArray) (h : RdP w a n ps) (hr : Ris ps) (hn : n ≤ 1000000) :
    Calls Try.prog 23 #[.slice a n cap, .string key] w fun e w' => e = .returned (.tuple #[.string (gv (eqs key ps)), .bool (!(eqs key ps).isEmpty)]) ∧ Hid (Below w.heap.size w w') := by
  obtain ⟨k, ha⟩ := find_at ps key (ris_mono hr key)
  have HC : Hid (RdP w a n ps ∧ AtP ps key k ∧ n ≤ 1000000) := ⟨h, ha, hn⟩
  cases hi : isP ps key k with
  | false =>
    have HE : Hid (eqs key ps = [] ∧ isP ps key k = false) := ⟨eqs_no hr ha hi, hi⟩
    clear h ha hr hn hi
    go_enter Try.func23, Try.ntmps23
    go_wp2_with (go_at_call 36; refine (find_is w a n cap ps key k HC.out.1 HC.out.2.1 HC.out.2.2).mono ?_; rintro e w3 ⟨rfl, HB⟩; rw [HE.out.2])
    go_ret2
    exact ⟨by rw [HE.out.1]; rfl, HB⟩
  | true =>
    obtain ⟨x, hx, hk, he⟩ := eqs_is hr ha hi
    have HE : Hid (eqs key ps = [x] ∧ isP ps key k = true ∧ ps[k]? = some x) := ⟨he, hi, hx⟩
    have hkn : k < n := by rw [← h.1]; exact (List.getElem?_eq_some_iff.1 hx).1
    obtain ⟨g, off, rfl, hg1, hc1⟩ := h.2 (by omega)
    have HX : Hid (∀ W, Below w.heap.size w W → W.cell? ⟨g, off + k * 2 + 1, none⟩ = some (.string x.2)) := fun W hW => (hW.cell (p := ⟨g, _, none⟩) hg1.lt).trans (hc1 k x hx).2
    have q1 : (k : Int) < (n : Int) := by omega
    have q0 : (0 : Int) ≤ (k : Int) := by omega
    clear h ha hr hn hi hx hk he hkn hc1 hg1
    go_enter Try.func23, Try.ntmps23
    go_wp2_with (go_at_call 36; refine (find_is w _ n cap ps key k HC.out.1 HC.out.2.1 HC.out.2.2).mono ?_; rintro e w3 ⟨rfl, HB⟩; rw [HE.out.2.1]; have c1 := HX.out w3 HB.out)
    go_ret2
    exact ⟨by rw [HE.out.1]; rfl, HB⟩

/-- are lists of pairs the same? -/
def sameP (ps qs : List Pr) : Bool := decide (ps.map (fun x => (x.1.toList, x.2.toList)) = qs.map (fun x => (x.1.toList, x.2.toList)))
theorem sameP_iff (ps qs : List Pr) : sameP ps qs = true ↔ ps = qs := by
  unfold sameP
  rw [decide_eq_true_iff]
  refine ⟨fun h => ?_, fun h => by rw [h]⟩
  exact (List.map_inj_right (f := fun x : Pr => (x.1.toList, x.2.toList)) fun x y e => by
    obtain ⟨x1, x2⟩ := x
    obtain ⟨y1, y2⟩ := y
    simp only [Prod.mk.injEq] at e ⊢
    exact ⟨list_inj e.1, list_inj e.2⟩).1 h
theorem sameP_no {ps qs : List Pr} (h : ps ≠ qs) : sameP ps qs = false := by
  cases hs : sameP ps qs with
  | false => rfl
  | true => exact absurd ((sameP_iff ps qs).1 hs) h
theorem sameP_yes {ps qs : List Pr} (h : ps = qs) : sameP ps qs = true := (sameP_iff ps qs).2 h

set_option maxRecDepth 100000 in
set_option maxHeartbeats 1000000 in
theorem same_any (w : World) (a : Option Addr) (n c : Nat) (ps : List Pr) (a2 : Option Addr) (n2 c2 : Nat) (qs : List Pr) (h : RdP w a n ps) (h2 : RdP w a2 n2 qs) (hn : n ≤ 1000000) (hn2 : n2 ≤ 1000000) :
    Calls Try.prog 12 #[.slice a n c, .slice a2 n2 c2] w fun e w' => e = .returned (.bool (sameP ps qs)) ∧ Hid (Below w.heap.size w w') := by
  by_cases hne : n = n2
  · subst hne
    have HR : Hid (RdP w a n ps ∧ RdP w a2 n qs ∧ n ≤ 1000000) := ⟨h, h2, hn⟩
    clear h h2 hn hn2
    go_enter Try.func12, Try.ntmps12
    go_wp2
    go_loopw [5] (fun u wr => ∃ i : Nat, u = .int .i64 (i : Int) ∧ Hid (i ≤ n ∧ ps.take i = qs.take i) ∧ Hid (Below w.heap.size w wr)) (fun u _ => n - (intOf u).toNat)
    case atStart => exact ⟨0, rfl, ⟨Nat.zero_le _, rfl⟩, Below.refl _ _⟩
    case round =>
      obtain ⟨i, rfl, HI, HB⟩ := hrel
      by_cases hi : i < n
      · obtain ⟨x, hx⟩ : ∃ x, ps[i]? = some x := ⟨_, List.getElem?_eq_getElem (by rw [HR.out.1.1]; exact hi)⟩
        obtain ⟨y, hy⟩ : ∃ y, qs[i]? = some y := ⟨_, List.getElem?_eq_getElem (by rw [HR.out.2.1.1]; exact hi)⟩
        obtain ⟨g, off, rfl, hg1, hc1⟩ := HR.out.1.2 (by omega)
        obtain ⟨g2, off2, rfl, hg2, hc2⟩ := HR.out.2.1.2 (by omega)
        have a0 : wr.cell? ⟨g, off + i * 2, none⟩ = some (.string x.1) := (HB.out.cell (p := ⟨g, _, none⟩) hg1.lt).trans (hc1 i x hx).1
        have a1 : wr.cell? ⟨g, off + i * 2 + 1, none⟩ = some (.string x.2) := (HB.out.cell (p := ⟨g, _, none⟩) hg1.lt).trans (hc1 i x hx).2
        have b0 : wr.cell? ⟨g2, off2 + i * 2, none⟩ = some (.string y.1) := (HB.out.cell (p := ⟨g2, _, none⟩) hg2.lt).trans (hc2 i y hy).1
        have b1 : wr.cell? ⟨g2, off2 + i * 2 + 1, none⟩ = some (.string y.2) := (HB.out.cell (p := ⟨g2, _, none⟩) hg2.lt).trans (hc2 i y hy).2
        have q1 : (i : Int) < (n : Int) := by omega
        have q2 : (n : Int) ≤ 1000000 := by have := HR.out.2.2; omega
        have HL : Hid (i < n) := hi
        have HX : Hid (ps[i]? = some x ∧ qs[i]? = some y) := ⟨hx, hy⟩
        by_cases hxy : x = y
        · subst hxy
          have HNX : Hid (ps.take (i + 1) = qs.take (i + 1)) := by
            show _ = _
            rw [List.take_add_one, List.take_add_one, HI.out.2, hx, hy]
          generalize x.1 = x1 at *
          generalize x.2 = x2 at *
          clear hc1 hc2 hx hy hi hg1 hg2
          go_wp2
          go_quiet (fail)
          go_wp2
          go_roundw
          case rel => exact ⟨i + 1, by simp, ⟨HL.out, HNX.out⟩, below_drewN HB.out _⟩
          case measure => have := HL.out; simp [intOf]; omega
        · have HNO : Hid (sameP ps qs = false) := sameP_no fun e => hxy (by rw [e, hy] at hx; exact (Option.some.inj hx).symm)
          have hpq : (x.1.toList == y.1.toList) = false ∨ (x.1.toList == y.1.toList) = true ∧ (x.2.toList == y.2.toList) = false := by
            cases e1 : x.1.toList == y.1.toList with
            | false => exact .inl rfl
            | true =>
              cases e2 : x.2.toList == y.2.toList with
              | false => exact .inr ⟨rfl, rfl⟩
              | true => exact absurd (Prod.ext (eqb_iff.1 e1) (eqb_iff.1 e2)) hxy
          generalize x.1 = x1 at *
          generalize x.2 = x2 at *
          generalize y.1 = y1 at *
          generalize y.2 = y2 at *
          clear hc1 hc2 hx hy hi hg1 hg2 hxy
          rcases hpq with p1 | ⟨p1, p2⟩
          · go_wp2
            go_quiet (fail)
            go_wp2
            go_ret
            exact ⟨by rw [HNO.out]; rfl, below_drewN HB.out _⟩
          · have p1' : x1 = y1 := eqb_iff.1 p1
            subst p1'
            clear p1
            go_wp2
            go_quiet (fail)
            go_wp2
            go_ret
            exact ⟨by rw [HNO.out]; rfl, below_drewN HB.out _⟩
      · have q1 : ¬ (i : Int) < (n : Int) := by omega
        have HYES : Hid (sameP ps qs = true) := sameP_yes (by
          have := HI.out.2
          rwa [List.take_of_length_le (by rw [HR.out.1.1]; omega), List.take_of_length_le (by rw [HR.out.2.1.1]; omega)] at this)
        go_wp2
        go_ret
        exact ⟨by rw [HYES.out]; rfl, HB⟩
  · have HNO : Hid (sameP ps qs = false) := sameP_no fun e => hne (by rw [← h.1, ← h2.1, e])
    have q1 : ¬ (n : Int) = (n2 : Int) := by omega
    clear h h2 hn hn2
    go_enter Try.func12, Try.ntmps12
    go_wp2
    go_ret
    exact ⟨by rw [HNO.out]; rfl, Below.refl _ _⟩
end Go.Proofs.Ytnagknlfboadkaa.Oct

/- Layer 7 (tree): the reference's Put and Delete. -/
namespace Go.Proofs.Ytnagknlfboadkaa.Oct
open Go.RowKit

theorem wpList_append_bs {P : Program} {ops : Array Oper} {rest : List Oper} {o : Oper} {a : Act} {Q : Exit → Act → World → Prop} (w : World) (hgd : o.guard = none) (s x : Operand) (t : TypeId)
    (hop : o.op = .call { callee := .builtin .append, args := #[s, x], argTypes := #[t, t] }) (e : TypeId) (i : TypeInfo) (z : Value) (sz B : Nat) (ht : P.underlying t = some (.slice e)) (hi : P.info? e = some i) (hz : i.zero = some z) (hs : i.size = sz) (hby : i.bytes ≤ 64) (hzs : z.cells.size = sz) (hsz : 0 < sz)
    (v : Value) (n : Nat) (cs : List Value) (h : Bs e sz B w v n cs) (ao : Option Addr) (q c : Nat) (qs : List Value) (hsv : a.eval s = v) (hx : a.eval x = .slice ao q c) (ho : Rd w e sz ao q qs) (hB : B ≤ w.heap.size) (hn : n + q ≤ 100000000000)
    (hk : ∀ v' w', Hid (Bs e sz B w' v' (n + q) (cs ++ qs)) → Hid (Below B w w') → wpList P ops Q rest (a.put o.dst v') w') : wpList P ops Q (o :: rest) a w :=
  wpList_plain hgd fun _ hK => by
    obtain ⟨v', w', hr, h2, h3⟩ := run_append_bs (P := P) w t o.type e i z sz B ht hi hz hs hby hzs hsz v n cs h ao q c qs ho hB hn
    unfold Oper.wp execOp
    simp only [hop, resolve, invoke, builtin, Sem.run_bind, Sem.run_pure, Result.andThen_ok, List.map_toArray, List.map_cons, List.map_nil, hsv, hx, hr]
    exact hK _ _ (hk v' w' h2 h3)
theorem ins_at {ps : List Pr} {x : Pr} {k : Nat} (h : Ris ps) (ha : AtP ps x.1 k) : insP ps x = ps.take k ++ [x] ++ ps.drop (if isP ps x.1 k = true then k + 1 else k) := by
  obtain ⟨h1, h2, h3⟩ := ris_at h ha
  cases hi : isP ps x.1 k with
  | true =>
    obtain ⟨y, _, hy, e, hG⟩ := h2 hi
    have : insP (ps.take k ++ y :: ps.drop (k + 1)) x = ps.take k ++ x :: ps.drop (k + 1) := insP_one hy h1 hG
    rw [← e] at this
    rw [this]; simp
  | false =>
    have hG := h3 hi
    have : insP (ps.take k ++ [] ++ ps.drop k) x = ps.take k ++ insP [] x ++ ps.drop k := insP_mid h1 hG
    rw [List.append_nil, List.take_append_drop] at this
    rw [this]; simp [insP, lo, Oct.hi]
theorem rem_at {ps : List Pr} {key : ByteArray} {k : Nat} (h : Ris ps) (ha : AtP ps key k) (hi : isP ps key k = true) : remP ps key = ps.take k ++ ps.drop (k + 1) := by
  obtain ⟨h1, h2, _⟩ := ris_at h ha
  obtain ⟨y, _, hy, e, hG⟩ := h2 hi
  subst hy
  have : remP (ps.take k ++ y :: ps.drop (k + 1)) y.1 = ps.take k ++ ps.drop (k + 1) := remP_one h1 hG
  rwa [← e] at this

/-- a list of the call's own -/
def Rows (w : World) (ps : List Pr) (e : Ending) (w' : World) : Prop := ∃ (a' : Option Addr) (n' cap' : Nat), e = .returned (.slice a' n' cap') ∧ Hid (RdP w' a' n' ps ∧ Cap a' n' cap') ∧ Hid (Below w.heap.size w w')
theorem Bs.alloc {e sz B : Nat} {w : World} {v : Value} {n : Nat} {cs : List Value} (h : Bs e sz B w v n cs) (o : Obj) : Bs e sz B (w.alloc o) v n cs := by
  rcases h with ⟨a, h1, h2, h3⟩ | ⟨h1, h2⟩
  · exact .inl ⟨a, h1, h2.below ((Below.refl w.heap.size w).alloc (Nat.le_refl _) o) (Nat.le_refl _), h3⟩
  · exact .inr ⟨h1, h2.alloc o⟩
theorem one_rd (w : World) (x : Pr) : Rd (w.alloc (.cells #[.string x.1, .string x.2] 40)) 40 2 (some ⟨w.heap.size, 0, none⟩) 1 ([x].flatMap pc) := (rdp_one (Blk.new w #[.string x.1, .string x.2] 40)).toRd
set_option maxRecDepth 100000 in
set_option maxHeartbeats 1000000 in
theorem rput_none (w : World) (ps : List Pr) (x : Pr) (h : RdP w none 0 ps) (ha : AtP ps x.1 0) (hi : isP ps x.1 0 = false) :
    Calls Try.prog 24 #[.slice none 0 0, .string x.1, .string x.2] w (Rows w (ps.take 0 ++ [x] ++ ps.drop 0)) := by
  obtain ⟨i0, hi0, hii⟩ := Option.map_eq_some_iff.1 infoP
  simp only [Prod.mk.injEq] at hii
  have hby : i0.bytes ≤ 64 := by rw [hii.2.2]; omega
  have HC : Hid (RdP w none 0 ps ∧ AtP ps x.1 0) := ⟨h, ha⟩
  have hps : ps = [] := List.eq_nil_of_length_eq_zero h.1
  have HS1 : Hid (∀ W, Below w.heap.size w W → Rd W 40 2 none 0 ((ps.take 0).flatMap pc)) := fun W _ => Rd.nil W 40 2 none
  have HS2 : Hid (∀ W, Below w.heap.size w W → Rd W 40 2 none 0 ((ps.drop 0).flatMap pc)) := fun W _ => by rw [hps]; exact Rd.nil W 40 2 none
  clear hps
  obtain ⟨k0, v0⟩ := x
  have HIS : Hid (isP ps k0 0 = false) := hi
  obtain ⟨T1, hT1⟩ : ∃ T1, (ps.take 0).flatMap pc = T1 := ⟨_, rfl⟩
  obtain ⟨T2, hT2⟩ : ∃ T2, (ps.drop 0).flatMap pc = T2 := ⟨_, rfl⟩
  rw [hT1] at HS1
  rw [hT2] at HS2
  have HTT : Hid (T1 ++ [(k0, v0)].flatMap pc ++ T2 = (ps.take 0 ++ [(k0, v0)] ++ ps.drop 0).flatMap pc) := by show _ = _; rw [← hT1, ← hT2]; simp
  generalize ps.take 0 ++ [(k0, v0)] ++ ps.drop 0 = PS at *
  clear hT1 hT2 h ha hi
  go_enter Try.func24, Try.ntmps24
  go_wp2_with (first
    | (go_at_call 36; refine (find_is w none 0 0 ps k0 0 HC.out.1 HC.out.2 (by omega)).mono ?_; rintro e w3 ⟨rfl, HB⟩; rw [HIS.out])
    | (at_builtin; refine wpList_append_bs _ rfl (.tmp 16) (.tmp 19) 27 rfl 40 i0 _ 2 w.heap.size Try.underlying27 hi0 hii.1 hii.2.1 hby rfl (by omega) (.slice (some ⟨w3.heap.size, 0, none⟩) 0 0) 0 [] (.inl ⟨_, rfl, Rd.nil _ _ _ _, .inr ⟨_, _, rfl⟩⟩) none 0 0 T1 rfl rfl (HS1.out _ (HB.out.alloc HB.out.size _)) (by have := HB.out.size; simp; omega) (by omega) ?_; intro v4 w4 HO4 HB4; rw [Nat.zero_add, List.nil_append] at HO4; have HW4 : Hid (Below w.heap.size w w4) := (HB.out.alloc HB.out.size _).trans HB4.out; obtain ⟨a4, cap4, rfl, _⟩ := HO4.out.read)
    | (at_builtin; refine wpList_append_bs _ rfl (.tmp 21) (.tmp 25) 27 rfl 40 i0 _ 2 w.heap.size Try.underlying27 hi0 hii.1 hii.2.1 hby rfl (by omega) _ _ _ (HO4.out.alloc _) (some ⟨w4.heap.size, 0, none⟩) 1 1 ([(k0, v0)].flatMap pc) rfl rfl (one_rd w4 (k0, v0)) (by have := HW4.out.size; simp; omega) (by omega) ?_; intro v5 w5 HO5 HB5; have HW5 : Hid (Below w.heap.size w w5) := (HW4.out.alloc HW4.out.size _).trans HB5.out; obtain ⟨a5, cap5, rfl, _⟩ := HO5.out.read)
    | (at_builtin; refine wpList_append_bs _ rfl (.tmp 30) (.tmp 33) 27 rfl 40 i0 _ 2 w.heap.size Try.underlying27 hi0 hii.1 hii.2.1 hby rfl (by omega) _ _ _ HO5.out none 0 0 T2 rfl rfl (HS2.out w5 HW5.out) HW5.out.size (by omega) ?_; intro v6 w6 HO6 HB6; have HW6 : Hid (Below w.heap.size w w6) := HW5.out.trans HB6.out; obtain ⟨a6, cap6, rfl, h6, h7, h8⟩ := HO6.out.read))
  go_ret
  exact ⟨a6, _, cap6, rfl, ⟨(show Rd w6 40 2 a6 _ _ by rw [← HTT.out]; exact h7).toP, h6, h8⟩, HW6⟩
set_option maxRecDepth 100000 in
set_option maxHeartbeats 1000000 in
theorem rput_full (w : World) (g off k : Nat) (ps : List Pr) (x : Pr) (h : RdP w (some ⟨g, off, none⟩) k ps) (ha : AtP ps x.1 k) (hi : isP ps x.1 k = false) (hn : k ≤ 100000) :
    Calls Try.prog 24 #[.slice (some ⟨g, off, none⟩) k k, .string x.1, .string x.2] w (Rows w (ps.take k ++ [x] ++ ps.drop k)) := by
  obtain ⟨i0, hi0, hii⟩ := Option.map_eq_some_iff.1 infoP
  simp only [Prod.mk.injEq] at hii
  have hby : i0.bytes ≤ 64 := by rw [hii.2.2]; omega
  have HC : Hid (RdP w (some ⟨g, off, none⟩) k ps ∧ AtP ps x.1 k ∧ k ≤ 100001) := ⟨h, ha, by omega⟩
  have HS1 : Hid (∀ W, Below w.heap.size w W → Rd W 40 2 (some ⟨g, off, none⟩) k ((ps.take k).flatMap pc)) := fun W hW => by
    have := (h.below hW (Nat.le_refl _)).toRd.take (i := k) (by omega)
    rwa [flat_take] at this
  have HS2 : Hid (∀ W, Below w.heap.size w W → Rd W 40 2 (some ⟨g, off, none⟩) 0 ((ps.drop k).flatMap pc)) := fun W hW => by
    rw [List.drop_eq_nil_of_le (by rw [h.1]; exact Nat.le_refl _)]; exact Rd.nil W 40 2 _
  obtain ⟨k0, v0⟩ := x
  have HIS : Hid (isP ps k0 k = false) := hi
  obtain ⟨T1, hT1⟩ : ∃ T1, (ps.take k).flatMap pc = T1 := ⟨_, rfl⟩
  obtain ⟨T2, hT2⟩ : ∃ T2, (ps.drop k).flatMap pc = T2 := ⟨_, rfl⟩
  rw [hT1] at HS1
  rw [hT2] at HS2
  have HTT : Hid (T1 ++ [(k0, v0)].flatMap pc ++ T2 = (ps.take k ++ [(k0, v0)] ++ ps.drop k).flatMap pc) := by show _ = _; rw [← hT1, ← hT2]; simp
  generalize ps.take k ++ [(k0, v0)] ++ ps.drop k = PS at *
  clear hT1 hT2 h ha hi
  have q3 : (0 : Int) ≤ (k : Int) := by omega
  have q4 : (k : Int) ≤ 100000 := by omega
  go_enter Try.func24, Try.ntmps24
  go_wp2_with (first
    | (go_at_call 36; refine (find_is w _ k k ps k0 k HC.out.1 HC.out.2.1 (by have := HC.out.2.2; omega)).mono ?_; rintro e w3 ⟨rfl, HB⟩; rw [HIS.out])
    | (at_builtin; refine wpList_append_bs _ rfl (.tmp 16) (.tmp 19) 27 rfl 40 i0 _ 2 w.heap.size Try.underlying27 hi0 hii.1 hii.2.1 hby rfl (by omega) (.slice (some ⟨w3.heap.size, 0, none⟩) 0 0) 0 [] (.inl ⟨_, rfl, Rd.nil _ _ _ _, .inr ⟨_, _, rfl⟩⟩) (some ⟨g, off, none⟩) k k T1 rfl rfl (HS1.out _ (HB.out.alloc HB.out.size _)) (by have := HB.out.size; simp; omega) (by have := HC.out; omega) ?_; intro v4 w4 HO4 HB4; rw [Nat.zero_add, List.nil_append] at HO4; have HW4 : Hid (Below w.heap.size w w4) := (HB.out.alloc HB.out.size _).trans HB4.out; obtain ⟨a4, cap4, rfl, _⟩ := HO4.out.read)
    | (at_builtin; refine wpList_append_bs _ rfl (.tmp 21) (.tmp 25) 27 rfl 40 i0 _ 2 w.heap.size Try.underlying27 hi0 hii.1 hii.2.1 hby rfl (by omega) _ _ _ (HO4.out.alloc _) (some ⟨w4.heap.size, 0, none⟩) 1 1 ([(k0, v0)].flatMap pc) rfl rfl (one_rd w4 (k0, v0)) (by have := HW4.out.size; simp; omega) (by have := HC.out; omega) ?_; intro v5 w5 HO5 HB5; have HW5 : Hid (Below w.heap.size w w5) := (HW4.out.alloc HW4.out.size _).trans HB5.out; obtain ⟨a5, cap5, rfl, _⟩ := HO5.out.read)
    | (at_builtin; refine wpList_append_bs _ rfl (.tmp 30) (.tmp 33) 27 rfl 40 i0 _ 2 w.heap.size Try.underlying27 hi0 hii.1 hii.2.1 hby rfl (by omega) _ _ _ HO5.out (some ⟨g, off, none⟩) 0 0 T2 rfl rfl (HS2.out w5 HW5.out) HW5.out.size (by have := HC.out; omega) ?_; intro v6 w6 HO6 HB6; have HW6 : Hid (Below w.heap.size w w6) := HW5.out.trans HB6.out; obtain ⟨a6, cap6, rfl, h6, h7, h8⟩ := HO6.out.read))
  go_ret
  exact ⟨a6, _, cap6, rfl, ⟨(show Rd w6 40 2 a6 _ _ by rw [← HTT.out]; exact h7).toP, h6, h8⟩, HW6⟩
set_option maxRecDepth 100000 in
set_option maxHeartbeats 1000000 in
theorem rput_some (w : World) (g off n cap k : Nat) (ps : List Pr) (x : Pr) (h : RdP w (some ⟨g, off, none⟩) n ps) (hc : n ≤ cap) (ha : AtP ps x.1 k) (hi : isP ps x.1 k = false) (hjn : k ≤ n) (hcj : ¬ cap = k) (hn : n ≤ 100000) :
    Calls Try.prog 24 #[.slice (some ⟨g, off, none⟩) n cap, .string x.1, .string x.2] w (Rows w (ps.take k ++ [x] ++ ps.drop k)) := by
  obtain ⟨i0, hi0, hii⟩ := Option.map_eq_some_iff.1 infoP
  simp only [Prod.mk.injEq] at hii
  have hby : i0.bytes ≤ 64 := by rw [hii.2.2]; omega
  have HC : Hid (RdP w (some ⟨g, off, none⟩) n ps ∧ AtP ps x.1 k ∧ n ≤ 100001) := ⟨h, ha, by omega⟩
  have HS1 : Hid (∀ W, Below w.heap.size w W → Rd W 40 2 (some ⟨g, off, none⟩) k ((ps.take k).flatMap pc)) := fun W hW => by
    have := (h.below hW (Nat.le_refl _)).toRd.take (i := k) (by omega)
    rwa [flat_take] at this
  have HS2 : Hid (∀ W, Below w.heap.size w W → Rd W 40 2 (some ⟨g, off + k * 2, none⟩) (n - k) ((ps.drop k).flatMap pc)) := fun W hW => by
    have := (h.below hW (Nat.le_refl _)).toRd.drop (j := k) hjn
    rwa [flat_drop] at this
  obtain ⟨k0, v0⟩ := x
  have HIS : Hid (isP ps k0 k = false) := hi
  obtain ⟨T1, hT1⟩ : ∃ T1, (ps.take k).flatMap pc = T1 := ⟨_, rfl⟩
  obtain ⟨T2, hT2⟩ : ∃ T2, (ps.drop k).flatMap pc = T2 := ⟨_, rfl⟩
  rw [hT1] at HS1
  rw [hT2] at HS2
  have HTT : Hid (T1 ++ [(k0, v0)].flatMap pc ++ T2 = (ps.take k ++ [(k0, v0)] ++ ps.drop k).flatMap pc) := by show _ = _; rw [← hT1, ← hT2]; simp
  generalize ps.take k ++ [(k0, v0)] ++ ps.drop k = PS at *
  clear hT1 hT2 h ha hi
  have q1 : (k : Int) ≤ (n : Int) := by omega
  have q2 : (n : Int) ≤ (cap : Int) := by omega
  have q3 : (0 : Int) ≤ (k : Int) := by omega
  have q4 : (n : Int) ≤ 100000 := by omega
  have q5 : ¬ cap - k = 0 := by omega
  have q6 : (k : Int) ≤ (cap : Int) := by omega
  go_enter Try.func24, Try.ntmps24
  go_wp2_with (first
    | (go_at_call 36; refine (find_is w _ n cap ps k0 k HC.out.1 HC.out.2.1 (by have := HC.out.2.2; omega)).mono ?_; rintro e w3 ⟨rfl, HB⟩; rw [HIS.out])
    | (at_builtin; refine wpList_append_bs _ rfl (.tmp 16) (.tmp 19) 27 rfl 40 i0 _ 2 w.heap.size Try.underlying27 hi0 hii.1 hii.2.1 hby rfl (by omega) (.slice (some ⟨w3.heap.size, 0, none⟩) 0 0) 0 [] (.inl ⟨_, rfl, Rd.nil _ _ _ _, .inr ⟨_, _, rfl⟩⟩) (some ⟨g, off, none⟩) k cap T1 rfl rfl (HS1.out _ (HB.out.alloc HB.out.size _)) (by have := HB.out.size; simp; omega) (by have := HC.out; omega) ?_; intro v4 w4 HO4 HB4; rw [Nat.zero_add, List.nil_append] at HO4; have HW4 : Hid (Below w.heap.size w w4) := (HB.out.alloc HB.out.size _).trans HB4.out; obtain ⟨a4, cap4, rfl, _⟩ := HO4.out.read)
    | (at_builtin; refine wpList_append_bs _ rfl (.tmp 21) (.tmp 25) 27 rfl 40 i0 _ 2 w.heap.size Try.underlying27 hi0 hii.1 hii.2.1 hby rfl (by omega) _ _ _ (HO4.out.alloc _) (some ⟨w4.heap.size, 0, none⟩) 1 1 ([(k0, v0)].flatMap pc) rfl rfl (one_rd w4 (k0, v0)) (by have := HW4.out.size; simp; omega) (by have := HC.out; omega) ?_; intro v5 w5 HO5 HB5; have HW5 : Hid (Below w.heap.size w w5) := (HW4.out.alloc HW4.out.size _).trans HB5.out; obtain ⟨a5, cap5, rfl, _⟩ := HO5.out.read)
    | (at_builtin; refine wpList_append_bs _ rfl (.tmp 30) (.tmp 33) 27 rfl 40 i0 _ 2 w.heap.size Try.underlying27 hi0 hii.1 hii.2.1 hby rfl (by omega) _ _ _ HO5.out (some ⟨g, off + k * 2, none⟩) (n - k) (cap - k) T2 rfl rfl (HS2.out w5 HW5.out) HW5.out.size (by have := HC.out; omega) ?_; intro v6 w6 HO6 HB6; have HW6 : Hid (Below w.heap.size w w6) := HW5.out.trans HB6.out; obtain ⟨a6, cap6, rfl, h6, h7, h8⟩ := HO6.out.read))
  go_ret
  exact ⟨a6, _, cap6, rfl, ⟨(show Rd w6 40 2 a6 _ _ by rw [← HTT.out]; exact h7).toP, h6, h8⟩, HW6⟩
set_option maxRecDepth 100000 in
set_option maxHeartbeats 1000000 in
theorem rput_full1 (w : World) (g off k : Nat) (ps : List Pr) (x : Pr) (h : RdP w (some ⟨g, off, none⟩) (k + 1) ps) (ha : AtP ps x.1 k) (hi : isP ps x.1 k = true) (hn : k ≤ 100000) :
    Calls Try.prog 24 #[.slice (some ⟨g, off, none⟩) (k + 1) (k + 1), .string x.1, .string x.2] w (Rows w (ps.take k ++ [x] ++ ps.drop (k + 1))) := by
  obtain ⟨i0, hi0, hii⟩ := Option.map_eq_some_iff.1 infoP
  simp only [Prod.mk.injEq] at hii
  have hby : i0.bytes ≤ 64 := by rw [hii.2.2]; omega
  have HC : Hid (RdP w (some ⟨g, off, none⟩) (k + 1) ps ∧ AtP ps x.1 k ∧ (k + 1) ≤ 100001) := ⟨h, ha, by omega⟩
  have HS1 : Hid (∀ W, Below w.heap.size w W → Rd W 40 2 (some ⟨g, off, none⟩) k ((ps.take k).flatMap pc)) := fun W hW => by
    have := (h.below hW (Nat.le_refl _)).toRd.take (i := k) (by omega)
    rwa [flat_take] at this
  have HS2 : Hid (∀ W, Below w.heap.size w W → Rd W 40 2 (some ⟨g, off, none⟩) 0 ((ps.drop (k + 1)).flatMap pc)) := fun W hW => by
    rw [List.drop_eq_nil_of_le (by rw [h.1]; exact Nat.le_refl _)]; exact Rd.nil W 40 2 _
  obtain ⟨k0, v0⟩ := x
  have HIS : Hid (isP ps k0 k = true) := hi
  obtain ⟨T1, hT1⟩ : ∃ T1, (ps.take k).flatMap pc = T1 := ⟨_, rfl⟩
  obtain ⟨T2, hT2⟩ : ∃ T2, (ps.drop (k + 1)).flatMap pc = T2 := ⟨_, rfl⟩
  rw [hT1] at HS1
  rw [hT2] at HS2
  have HTT : Hid (T1 ++ [(k0, v0)].flatMap pc ++ T2 = (ps.take k ++ [(k0, v0)] ++ ps.drop (k + 1)).flatMap pc) := by show _ = _; rw [← hT1, ← hT2]; simp
  generalize ps.take k ++ [(k0, v0)] ++ ps.drop (k + 1) = PS at *
  clear hT1 hT2 h ha hi
  have q3 : (0 : Int) ≤ (k : Int) := by omega
  have q4 : (k : Int) ≤ 100000 := by omega
  have q7 : (k : Int) ≤ (k : Int) + 1 := by omega
  have q8 : (0 : Int) ≤ (k : Int) + 1 := by omega
  go_enter Try.func24, Try.ntmps24
  go_wp2_with (first
    | (go_at_call 36; refine (find_is w _ (k + 1) (k + 1) ps k0 k HC.out.1 HC.out.2.1 (by have := HC.out.2.2; omega)).mono ?_; rintro e w3 ⟨rfl, HB⟩; rw [HIS.out])
    | (at_builtin; refine wpList_append_bs _ rfl (.tmp 16) (.tmp 19) 27 rfl 40 i0 _ 2 w.heap.size Try.underlying27 hi0 hii.1 hii.2.1 hby rfl (by omega) (.slice (some ⟨w3.heap.size, 0, none⟩) 0 0) 0 [] (.inl ⟨_, rfl, Rd.nil _ _ _ _, .inr ⟨_, _, rfl⟩⟩) (some ⟨g, off, none⟩) k (k + 1) T1 rfl rfl (HS1.out _ (HB.out.alloc HB.out.size _)) (by have := HB.out.size; simp; omega) (by have := HC.out; omega) ?_; intro v4 w4 HO4 HB4; rw [Nat.zero_add, List.nil_append] at HO4; have HW4 : Hid (Below w.heap.size w w4) := (HB.out.alloc HB.out.size _).trans HB4.out; obtain ⟨a4, cap4, rfl, _⟩ := HO4.out.read)
    | (at_builtin; refine wpList_append_bs _ rfl (.tmp 21) (.tmp 25) 27 rfl 40 i0 _ 2 w.heap.size Try.underlying27 hi0 hii.1 hii.2.1 hby rfl (by omega) _ _ _ (HO4.out.alloc _) (some ⟨w4.heap.size, 0, none⟩) 1 1 ([(k0, v0)].flatMap pc) rfl rfl (one_rd w4 (k0, v0)) (by have := HW4.out.size; simp; omega) (by have := HC.out; omega) ?_; intro v5 w5 HO5 HB5; have HW5 : Hid (Below w.heap.size w w5) := (HW4.out.alloc HW4.out.size _).trans HB5.out; obtain ⟨a5, cap5, rfl, _⟩ := HO5.out.read)
    | (at_builtin; refine wpList_append_bs _ rfl (.tmp 30) (.tmp 33) 27 rfl 40 i0 _ 2 w.heap.size Try.underlying27 hi0 hii.1 hii.2.1 hby rfl (by omega) _ _ _ HO5.out (some ⟨g, off, none⟩) 0 0 T2 rfl rfl (HS2.out w5 HW5.out) HW5.out.size (by have := HC.out; omega) ?_; intro v6 w6 HO6 HB6; have HW6 : Hid (Below w.heap.size w w6) := HW5.out.trans HB6.out; obtain ⟨a6, cap6, rfl, h6, h7, h8⟩ := HO6.out.read))
  go_ret
  exact ⟨a6, _, cap6, rfl, ⟨(show Rd w6 40 2 a6 _ _ by rw [← HTT.out]; exact h7).toP, h6, h8⟩, HW6⟩
set_option maxRecDepth 100000 in
set_option maxHeartbeats 1000000 in
theorem rput_some1 (w : World) (g off n cap k : Nat) (ps : List Pr) (x : Pr) (h : RdP w (some ⟨g, off, none⟩) n ps) (hc : n ≤ cap) (ha : AtP ps x.1 k) (hi : isP ps x.1 k = true) (hjn : (k + 1) ≤ n) (hcj : ¬ cap = (k + 1)) (hn : n ≤ 100000) :
    Calls Try.prog 24 #[.slice (some ⟨g, off, none⟩) n cap, .string x.1, .string x.2] w (Rows w (ps.take k ++ [x] ++ ps.drop (k + 1))) := by
  obtain ⟨i0, hi0, hii⟩ := Option.map_eq_some_iff.1 infoP
  simp only [Prod.mk.injEq] at hii
  have hby : i0.bytes ≤ 64 := by rw [hii.2.2]; omega
  have HC : Hid (RdP w (some ⟨g, off, none⟩) n ps ∧ AtP ps x.1 k ∧ n ≤ 100001) := ⟨h, ha, by omega⟩
  have HS1 : Hid (∀ W, Below w.heap.size w W → Rd W 40 2 (some ⟨g, off, none⟩) k ((ps.take k).flatMap pc)) := fun W hW => by
    have := (h.below hW (Nat.le_refl _)).toRd.take (i := k) (by omega)
    rwa [flat_take] at this
  have HS2 : Hid (∀ W, Below w.heap.size w W → Rd W 40 2 (some ⟨g, off + (k + 1) * 2, none⟩) (n - (k + 1)) ((ps.drop (k + 1)).flatMap pc)) := fun W hW => by
    have := (h.below hW (Nat.le_refl _)).toRd.drop (j := (k + 1)) hjn
    rwa [flat_drop] at this
  obtain ⟨k0, v0⟩ := x
  have HIS : Hid (isP ps k0 k = true) := hi
  obtain ⟨T1, hT1⟩ : ∃ T1, (ps.take k).flatMap pc = T1 := ⟨_, rfl⟩
  obtain ⟨T2, hT2⟩ : ∃ T2, (ps.drop (k + 1)).flatMap pc = T2 := ⟨_, rfl⟩
  rw [hT1] at HS1
  rw [hT2] at HS2
  have HTT : Hid (T1 ++ [(k0, v0)].flatMap pc ++ T2 = (ps.take k ++ [(k0, v0)] ++ ps.drop (k + 1)).flatMap pc) := by show _ = _; rw [← hT1, ← hT2]; simp
  generalize ps.take k ++ [(k0, v0)] ++ ps.drop (k + 1) = PS at *
  clear hT1 hT2 h ha hi
  have q1 : (k : Int) ≤ (n : Int) := by omega
  have q2 : (n : Int) ≤ (cap : Int) := by omega
  have q3 : (0 : Int) ≤ (k : Int) := by omega
  have q4 : (n : Int) ≤ 100000 := by omega
  have q5 : ¬ cap - (k + 1) = 0 := by omega
  have q6 : (k : Int) ≤ (cap : Int) := by omega
  have q7 : (k : Int) + 1 ≤ (n : Int) := by omega
  have q8 : (0 : Int) ≤ (k : Int) + 1 := by omega
  go_enter Try.func24, Try.ntmps24
  go_wp2_with (first
    | (go_at_call 36; refine (find_is w _ n cap ps k0 k HC.out.1 HC.out.2.1 (by have := HC.out.2.2; omega)).mono ?_; rintro e w3 ⟨rfl, HB⟩; rw [HIS.out])
    | (at_builtin; refine wpList_append_bs _ rfl (.tmp 16) (.tmp 19) 27 rfl 40 i0 _ 2 w.heap.size Try.underlying27 hi0 hii.1 hii.2.1 hby rfl (by omega) (.slice (some ⟨w3.heap.size, 0, none⟩) 0 0) 0 [] (.inl ⟨_, rfl, Rd.nil _ _ _ _, .inr ⟨_, _, rfl⟩⟩) (some ⟨g, off, none⟩) k cap T1 rfl rfl (HS1.out _ (HB.out.alloc HB.out.size _)) (by have := HB.out.size; simp; omega) (by have := HC.out; omega) ?_; intro v4 w4 HO4 HB4; rw [Nat.zero_add, List.nil_append] at HO4; have HW4 : Hid (Below w.heap.size w w4) := (HB.out.alloc HB.out.size _).trans HB4.out; obtain ⟨a4, cap4, rfl, _⟩ := HO4.out.read)
    | (at_builtin; refine wpList_append_bs _ rfl (.tmp 21) (.tmp 25) 27 rfl 40 i0 _ 2 w.heap.size Try.underlying27 hi0 hii.1 hii.2.1 hby rfl (by omega) _ _ _ (HO4.out.alloc _) (some ⟨w4.heap.size, 0, none⟩) 1 1 ([(k0, v0)].flatMap pc) rfl rfl (one_rd w4 (k0, v0)) (by have := HW4.out.size; simp; omega) (by have := HC.out; omega) ?_; intro v5 w5 HO5 HB5; have HW5 : Hid (Below w.heap.size w w5) := (HW4.out.alloc HW4.out.size _).trans HB5.out; obtain ⟨a5, cap5, rfl, _⟩ := HO5.out.read)
    | (at_builtin; refine wpList_append_bs _ rfl (.tmp 30) (.tmp 33) 27 rfl 40 i0 _ 2 w.heap.size Try.underlying27 hi0 hii.1 hii.2.1 hby rfl (by omega) _ _ _ HO5.out (some ⟨g, off + (k + 1) * 2, none⟩) (n - (k + 1)) (cap - (k + 1)) T2 rfl rfl (HS2.out w5 HW5.out) HW5.out.size (by have := HC.out; omega) ?_; intro v6 w6 HO6 HB6; have HW6 : Hid (Below w.heap.size w w6) := HW5.out.trans HB6.out; obtain ⟨a6, cap6, rfl, h6, h7, h8⟩ := HO6.out.read))
  have e6 : k + 1 + (n - (k + 1)) = n := by omega
  rw [e6] at h6 h7
  go_ret
  exact ⟨a6, _, cap6, rfl, ⟨(show Rd w6 40 2 a6 _ _ by rw [← HTT.out]; exact h7).toP, h6, h8⟩, HW6⟩
theorem rput_is (w : World) (a : Option Addr) (n cap : Nat) (ps : List Pr) (x : Pr) (h : RdP w a n ps) (hc : Cap a n cap) (hr : Ris ps) (hn : n ≤ 100000) : Calls Try.prog 24 #[.slice a n cap, .string x.1, .string x.2] w (Rows w (insP ps x)) := by
  obtain ⟨k, ha⟩ := find_at ps x.1 (ris_mono hr x.1)
  have hia := ins_at hr ha
  have hkn : k ≤ n := by rw [← h.1]; exact ha.1
  rw [hia]
  cases hi : isP ps x.1 k with
  | false =>
    rw [if_neg (by simp)]
    rcases hc with ⟨hc1, ⟨rfl, rfl⟩ | ⟨g, off, rfl⟩⟩
    · have hn0 : n = 0 := by omega
      subst hn0
      have hk0 : k = 0 := by omega
      subst hk0
      exact rput_none w ps x h ha hi
    · by_cases hcj : cap = k
      · subst hcj
        have : n = cap := by omega
        subst this
        exact rput_full w g off n ps x h ha hi hn
      · exact rput_some w g off n cap k ps x h hc1 ha hi hkn hcj hn
  | true =>
    rw [if_pos rfl]
    obtain ⟨y, hy, _⟩ := eqs_is hr ha hi
    have hkn' : k < n := by rw [← h.1]; exact (List.getElem?_eq_some_iff.1 hy).1
    rcases hc with ⟨hc1, ⟨rfl, rfl⟩ | ⟨g, off, rfl⟩⟩
    · omega
    · by_cases hcj : cap = k + 1
      · subst hcj
        have : n = k + 1 := by omega
        subst this
        exact rput_full1 w g off k ps x h ha hi (by omega)
      · exact rput_some1 w g off n cap k ps x h hc1 ha hi hkn' hcj hn
end Go.Proofs.Ytnagknlfboadkaa.Oct

/- Layer 7 (tree): the reference's Delete. -/
namespace Go.Proofs.Ytnagknlfboadkaa.Oct
open Go.RowKit

theorem rdel_no (w : World) (a : Option Addr) (n cap k : Nat) (ps : List Pr) (key : ByteArray) (h : RdP w a n ps) (ha : AtP ps key k) (hi : isP ps key k = false) (hn : n ≤ 100000) (hc : Cap a n cap) :
    Calls Try.prog 25 #[.slice a n cap, .string key] w (Rows w ps) := by
  have HC : Hid (RdP w a n ps ∧ AtP ps key k ∧ n ≤ 100000 ∧ Cap a n cap) := ⟨h, ha, hn, hc⟩
  have HIS : Hid (isP ps key k = false) := hi
  clear h ha hi hn hc
  go_enter Try.func25, Try.ntmps25
  go_wp2_with (go_at_call 36; refine (find_is w a n cap ps key k HC.out.1 HC.out.2.1 (by have := HC.out; omega)).mono ?_; rintro e w3 ⟨rfl, HB⟩; rw [HIS.out])
  go_ret
  exact ⟨a, n, cap, rfl, ⟨HC.out.1.below HB.out (Nat.le_refl _), HC.out.2.2.2⟩, HB⟩
set_option maxRecDepth 100000 in
set_option maxHeartbeats 1000000 in
theorem rdel_some (w : World) (g off n cap k : Nat) (ps : List Pr) (key : ByteArray) (h : RdP w (some ⟨g, off, none⟩) n ps) (hc : n ≤ cap) (ha : AtP ps key k) (hi : isP ps key k = true) (hjn : k + 1 ≤ n) (hcj : ¬ cap = k + 1) (hn : n ≤ 100000) :
    Calls Try.prog 25 #[.slice (some ⟨g, off, none⟩) n cap, .string key] w (Rows w (ps.take k ++ ps.drop (k + 1))) := by
  obtain ⟨i0, hi0, hii⟩ := Option.map_eq_some_iff.1 infoP
  simp only [Prod.mk.injEq] at hii
  have hby : i0.bytes ≤ 64 := by rw [hii.2.2]; omega
  have HC : Hid (RdP w (some ⟨g, off, none⟩) n ps ∧ AtP ps key k ∧ n ≤ 100001) := ⟨h, ha, by omega⟩
  have HS1 : Hid (∀ W, Below w.heap.size w W → Rd W 40 2 (some ⟨g, off, none⟩) k ((ps.take k).flatMap pc)) := fun W hW => by
    have := (h.below hW (Nat.le_refl _)).toRd.take (i := k) (by omega)
    rwa [flat_take] at this
  have HS2 : Hid (∀ W, Below w.heap.size w W → Rd W 40 2 (some ⟨g, off + (k + 1) * 2, none⟩) (n - (k + 1)) ((ps.drop (k + 1)).flatMap pc)) := fun W hW => by
    have := (h.below hW (Nat.le_refl _)).toRd.drop (j := k + 1) hjn
    rwa [flat_drop] at this
  have HIS : Hid (isP ps key k = true) := hi
  obtain ⟨T1, hT1⟩ : ∃ T1, (ps.take k).flatMap pc = T1 := ⟨_, rfl⟩
  obtain ⟨T2, hT2⟩ : ∃ T2, (ps.drop (k + 1)).flatMap pc = T2 := ⟨_, rfl⟩
  rw [hT1] at HS1
  rw [hT2] at HS2
  have HTT : Hid (T1 ++ T2 = (ps.take k ++ ps.drop (k + 1)).flatMap pc) := by show _ = _; rw [← hT1, ← hT2]; simp
  generalize ps.take k ++ ps.drop (k + 1) = PS at *
  clear hT1 hT2 h ha hi
  have q1 : (k : Int) ≤ (n : Int) := by omega
  have q2 : (n : Int) ≤ (cap : Int) := by omega
  have q3 : (0 : Int) ≤ (k : Int) := by omega
  have q4 : (n : Int) ≤ 100000 := by omega
  have q5 : ¬ cap - (k + 1) = 0 := by omega
  have q6 : (k : Int) ≤ (cap : Int) := by omega
  have q7 : (k : Int) + 1 ≤ (n : Int) := by omega
  have q10 : k < n := by omega
  have q11 : (k : Int) < (n : Int) := by omega
  have q12 : (k : Int) + 1 ≤ (cap : Int) := by omega
  have q8 : (0 : Int) ≤ (k : Int) + 1 := by omega
  have q9 : ((k : Int) + 1).toNat = k + 1 := by omega
  have q13 : IntKind.i64.wrap ((k : Int) + 1) = (k : Int) + 1 := by rw [IntKind.wrap_i64]; omega
  go_enter Try.func25, Try.ntmps25
  go_wp2_with (go_at_call 36; refine (find_is w _ n cap ps key k HC.out.1 HC.out.2.1 (by have := HC.out; omega)).mono ?_; rintro e w3 ⟨rfl, HB⟩; rw [HIS.out])
  go_region_held_law (fun _ => True) (trivial) (first
    | (refine step_append_bs (by rfl) 20 rfl _ _ 27 rfl _ 40 i0 _ 2 w.heap.size Try.underlying27 hi0 hii.1 hii.2.1 hby rfl (by omega) (.slice (some ⟨w3.heap.size, 0, none⟩) 0 0) 0 [] (.inl ⟨_, rfl, Rd.nil _ _ _ _, .inr ⟨_, _, rfl⟩⟩) (some ⟨g, off, none⟩) k cap T1 rfl rfl (HS1.out _ (HB.out.drew.alloc HB.out.size _)) (by have := HB.out.size; simp; omega) (by have := HC.out; omega) ?_; intro v4 w4 HO4 HB4; rw [Nat.zero_add, List.nil_append] at HO4; have HW4 : Hid (Below w.heap.size w w4) := (HB.out.drew.alloc HB.out.size _).trans HB4.out; obtain ⟨a4, cap4, rfl, _⟩ := HO4.out.read)
    | (refine step_append_bs (by rfl) 25 rfl _ _ 27 rfl w4 40 i0 _ 2 w.heap.size Try.underlying27 hi0 hii.1 hii.2.1 hby rfl (by omega) _ _ _ HO4.out (some ⟨g, off + (k + 1) * 2, none⟩) (n - (k + 1)) (cap - (k + 1)) T2 rfl rfl (HS2.out w4 HW4.out) HW4.out.size (by have := HC.out; omega) ?_; intro v6 w6 HO6 HB6; have HW6 : Hid (Below w.heap.size w w6) := HW4.out.trans HB6.out; obtain ⟨a6, cap6, rfl, h6, h7, h8⟩ := HO6.out.read))
  go_wp2
  go_ret
  exact ⟨a6, _, cap6, rfl, ⟨(show Rd w6 40 2 a6 _ _ by rw [← HTT.out]; exact h7).toP, h6, h8⟩, HW6⟩
set_option maxRecDepth 100000 in
set_option maxHeartbeats 1000000 in
theorem rdel_full (w : World) (g off k : Nat) (ps : List Pr) (key : ByteArray) (h : RdP w (some ⟨g, off, none⟩) (k + 1) ps) (ha : AtP ps key k) (hi : isP ps key k = true) (hn : k ≤ 100000) :
    Calls Try.prog 25 #[.slice (some ⟨g, off, none⟩) (k + 1) (k + 1), .string key] w (Rows w (ps.take k ++ ps.drop (k + 1))) := by
  obtain ⟨i0, hi0, hii⟩ := Option.map_eq_some_iff.1 infoP
  simp only [Prod.mk.injEq] at hii
  have hby : i0.bytes ≤ 64 := by rw [hii.2.2]; omega
  have HC : Hid (RdP w (some ⟨g, off, none⟩) (k + 1) ps ∧ AtP ps key k ∧ k + 1 ≤ 100001) := ⟨h, ha, by omega⟩
  have HS1 : Hid (∀ W, Below w.heap.size w W → Rd W 40 2 (some ⟨g, off, none⟩) k ((ps.take k).flatMap pc)) := fun W hW => by
    have := (h.below hW (Nat.le_refl _)).toRd.take (i := k) (by omega)
    rwa [flat_take] at this
  have HS2 : Hid (∀ W, Below w.heap.size w W → Rd W 40 2 (some ⟨g, off, none⟩) 0 ((ps.drop (k + 1)).flatMap pc)) := fun W hW => by
    rw [List.drop_eq_nil_of_le (by rw [h.1]; exact Nat.le_refl _)]; exact Rd.nil W 40 2 _
  have HIS : Hid (isP ps key k = true) := hi
  obtain ⟨T1, hT1⟩ : ∃ T1, (ps.take k).flatMap pc = T1 := ⟨_, rfl⟩
  obtain ⟨T2, hT2⟩ : ∃ T2, (ps.drop (k + 1)).flatMap pc = T2 := ⟨_, rfl⟩
  rw [hT1] at HS1
  rw [hT2] at HS2
  have HTT : Hid (T1 ++ T2 = (ps.take k ++ ps.drop (k + 1)).flatMap pc) := by show _ = _; rw [← hT1, ← hT2]; simp
  generalize ps.take k ++ ps.drop (k + 1) = PS at *
  clear hT1 hT2 h ha hi
  have q3 : (0 : Int) ≤ (k : Int) := by omega
  have q4 : (k : Int) ≤ 100000 := by omega
  have q7 : (k : Int) ≤ (k : Int) + 1 := by omega
  have q8 : (0 : Int) ≤ (k : Int) + 1 := by omega
  have q9 : ((k : Int) + 1).toNat = k + 1 := by omega
  have q13 : IntKind.i64.wrap ((k : Int) + 1) = (k : Int) + 1 := by rw [IntKind.wrap_i64]; omega
  go_enter Try.func25, Try.ntmps25
  go_wp2_with (go_at_call 36; refine (find_is w _ (k + 1) (k + 1) ps key k HC.out.1 HC.out.2.1 (by have := HC.out; omega)).mono ?_; rintro e w3 ⟨rfl, HB⟩; rw [HIS.out])
  go_region_held_law (fun _ => True) (trivial) (first
    | (refine step_append_bs (by rfl) 20 rfl _ _ 27 rfl _ 40 i0 _ 2 w.heap.size Try.underlying27 hi0 hii.1 hii.2.1 hby rfl (by omega) (.slice (some ⟨w3.heap.size, 0, none⟩) 0 0) 0 [] (.inl ⟨_, rfl, Rd.nil _ _ _ _, .inr ⟨_, _, rfl⟩⟩) (some ⟨g, off, none⟩) k (k + 1) T1 rfl rfl (HS1.out _ (HB.out.drew.alloc HB.out.size _)) (by have := HB.out.size; simp; omega) (by have := HC.out; omega) ?_; intro v4 w4 HO4 HB4; rw [Nat.zero_add, List.nil_append] at HO4; have HW4 : Hid (Below w.heap.size w w4) := (HB.out.drew.alloc HB.out.size _).trans HB4.out; obtain ⟨a4, cap4, rfl, _⟩ := HO4.out.read)
    | (refine step_append_bs (by rfl) 25 rfl _ _ 27 rfl w4 40 i0 _ 2 w.heap.size Try.underlying27 hi0 hii.1 hii.2.1 hby rfl (by omega) _ _ _ HO4.out (some ⟨g, off, none⟩) 0 0 T2 rfl rfl (HS2.out w4 HW4.out) HW4.out.size (by have := HC.out; omega) ?_; intro v6 w6 HO6 HB6; have HW6 : Hid (Below w.heap.size w w6) := HW4.out.trans HB6.out; obtain ⟨a6, cap6, rfl, h6, h7, h8⟩ := HO6.out.read))
  go_wp2
  go_ret
  exact ⟨a6, _, cap6, rfl, ⟨(show Rd w6 40 2 a6 _ _ by rw [← HTT.out]; exact h7).toP, h6, h8⟩, HW6⟩
theorem rdel_is (w : World) (a : Option Addr) (n cap : Nat) (ps : List Pr) (key : ByteArray) (h : RdP w a n ps) (hc : Cap a n cap) (hr : Ris ps) (hn : n ≤ 100000) : Calls Try.prog 25 #[.slice a n cap, .string key] w (Rows w (remP ps key)) := by
  obtain ⟨k, ha⟩ := find_at ps key (ris_mono hr key)
  cases hi : isP ps key k with
  | false =>
    rw [rem_no hr key (eqs_no hr ha hi)]
    exact rdel_no w a n cap k ps key h ha hi hn hc
  | true =>
    rw [rem_at hr ha hi]
    obtain ⟨y, hy, _⟩ := eqs_is hr ha hi
    have hkn' : k < n := by rw [← h.1]; exact (List.getElem?_eq_some_iff.1 hy).1
    rcases hc with ⟨hc1, ⟨rfl, rfl⟩ | ⟨g, off, rfl⟩⟩
    · omega
    · by_cases hcj : cap = k + 1
      · subst hcj
        have : n = k + 1 := by omega
        subst this
        exact rdel_full w g off k ps key h ha hi (by omega)
      · exact rdel_some w g off n cap k ps key h hc1 ha hi hkn' hcj hn
end Go.Proofs.Ytnagknlfboadkaa.Oct

/- Layer 7 (tree): the reference's Scan. -/
namespace Go.Proofs.Ytnagknlfboadkaa.Oct
open Go.RowKit

/-- a pair that a scan tells -/
def inS (key til : ByteArray) (x : Pr) : Bool := geS x.1 key && okS til x
theorem filter_take_yes {ps : List Pr} {i : Nat} {x : Pr} {p : Pr → Bool} (hx : ps[i]? = some x) (hp : p x = true) : (ps.take (i + 1)).filter p = (ps.take i).filter p ++ [x] := by
  rw [List.take_add_one, List.filter_append, hx]; simp [hp]
theorem filter_take_no {ps : List Pr} {i : Nat} {x : Pr} {p : Pr → Bool} (hx : ps[i]? = some x) (hp : p x = false) : (ps.take (i + 1)).filter p = (ps.take i).filter p := by
  rw [List.take_add_one, List.filter_append, hx]; simp [hp]

set_option maxRecDepth 100000 in
set_option maxHeartbeats 1000000 in
theorem rscan_is (w : World) (a : Option Addr) (n cap : Nat) (ps : List Pr) (key til : ByteArray) (h : RdP w a n ps) (hn : n ≤ 100000) :
    Calls Try.prog 16 #[.slice a n cap, .string key, .string til] w (Rows w (ps.filter (inS key til))) := by
  obtain ⟨i0, hi0, hii⟩ := Option.map_eq_some_iff.1 infoP
  simp only [Prod.mk.injEq] at hii
  have hby : i0.bytes ≤ 64 := by rw [hii.2.2]; omega
  have HR : Hid (RdP w a n ps ∧ n ≤ 100000) := ⟨h, hn⟩
  clear h hn
  go_enter Try.func16, Try.ntmps16
  go_wp2
  go_loopw [8, 7] (fun u v wr => ∃ (i m : Nat) (av : Option Addr) (cv : Nat), u = .int .i64 (i : Int) ∧ v = .slice av m cv ∧ Hid (i ≤ n ∧ m ≤ i) ∧ Hid (Bs 40 2 w.heap.size wr (.slice av m cv) m (((ps.take i).filter (inS key til)).flatMap pc)) ∧ Hid (Below w.heap.size w wr)) (fun u _ _ => n - (intOf u).toNat)
  case atStart => exact ⟨0, 0, none, 0, rfl, rfl, ⟨Nat.zero_le _, Nat.le_refl _⟩, .inl ⟨none, rfl, Rd.nil _ _ _ _, .inl ⟨rfl, rfl⟩⟩, Below.refl _ _⟩
  case round =>
    obtain ⟨i, m, av, cv, rfl, rfl, HI, HO, HB⟩ := hrel
    by_cases hi : i < n
    · obtain ⟨x, hx⟩ : ∃ x, ps[i]? = some x := ⟨_, List.getElem?_eq_getElem (by rw [HR.out.1.1]; exact hi)⟩
      obtain ⟨g, off, rfl, hg1, hc1⟩ := HR.out.1.2 (by omega)
      have a0 : wr.cell? ⟨g, off + i * 2, none⟩ = some (.string x.1) := (HB.out.cell (p := ⟨g, _, none⟩) hg1.lt).trans (hc1 i x hx).1
      have a1 : wr.cell? ⟨g, off + i * 2 + 1, none⟩ = some (.string x.2) := (HB.out.cell (p := ⟨g, _, none⟩) hg1.lt).trans (hc1 i x hx).2
      have q1 : (i : Int) < (n : Int) := by omega
      have q2 : (n : Int) ≤ 100000 := by have := HR.out.2; omega
      have HL : Hid (i < n) := hi
      have YES : Hid (inS key til x = true → (ps.take (i + 1)).filter (inS key til) = (ps.take i).filter (inS key til) ++ [x]) := fun hp => filter_take_yes hx hp
      have NO : Hid (inS key til x = false → (ps.take (i + 1)).filter (inS key til) = (ps.take i).filter (inS key til)) := fun hp => filter_take_no hx hp
      clear hc1 hx hi hg1
      obtain ⟨x1, x2⟩ := x
      cases hg : Op.bytesLess x1.toList key.toList with
      | true =>
        have hno : inS key til (x1, x2) = false := by simp [inS, geS, hg]
        have HNO : Hid ((ps.take (i + 1)).filter (inS key til) = (ps.take i).filter (inS key til)) := NO.out hno
        clear YES NO hno
        go_wp2
        go_roundw
        case rel => exact ⟨i + 1, m, av, cv, by simp, rfl, ⟨HL.out, by have := HI.out; omega⟩, by rw [HNO.out]; exact HO.out, HB⟩
        case measure => have := HL.out; simp [intOf]; omega
      | false =>
        cases he : til.toList.isEmpty with
        | true =>
          have hyes : inS key til (x1, x2) = true := by simp [inS, geS, hg, okS, he]
          have HYES : Hid ((ps.take (i + 1)).filter (inS key til) = (ps.take i).filter (inS key til) ++ [(x1, x2)]) := YES.out hyes
          have he1 : (til.toList == []) = true := by simpa using he
          clear YES NO hyes
          go_wp2_with (at_builtin; refine wpList_append_bs _ rfl (.tmp 35) (.tmp 40) 27 rfl 40 i0 _ 2 w.heap.size Try.underlying27 hi0 hii.1 hii.2.1 hby rfl (by omega) _ _ _ (HO.out.alloc _) (some ⟨wr.heap.size, 0, none⟩) 1 1 ([(x1, x2)].flatMap pc) rfl rfl (one_rd wr (x1, x2)) (by have := HB.out.size; simp; omega) (by have := HI.out; have := HR.out.2; omega) ?_; intro v5 w5 HO5 HB5; have HW5 : Hid (Below w.heap.size w w5) := (HB.out.alloc HB.out.size _).trans HB5.out; obtain ⟨a5, cap5, rfl, _⟩ := HO5.out.read)
          go_roundw
          case rel => exact ⟨i + 1, m + 1, a5, cap5, by simp, rfl, ⟨HL.out, by have := HI.out; omega⟩, by rw [HYES.out, List.flatMap_append]; exact HO5.out, HW5⟩
          case measure => have := HL.out; simp [intOf]; omega
        | false =>
          have he1 : (til.toList == []) = false := by simpa using he
          cases hl : Op.bytesLess x1.toList til.toList with
          | true =>
            have hyes : inS key til (x1, x2) = true := by simp [inS, geS, hg, okS, hl]
            have HYES : Hid ((ps.take (i + 1)).filter (inS key til) = (ps.take i).filter (inS key til) ++ [(x1, x2)]) := YES.out hyes
            clear YES NO hyes
            go_wp2_with (at_builtin; refine wpList_append_bs _ rfl (.tmp 35) (.tmp 40) 27 rfl 40 i0 _ 2 w.heap.size Try.underlying27 hi0 hii.1 hii.2.1 hby rfl (by omega) _ _ _ (HO.out.alloc _) (some ⟨wr.heap.size, 0, none⟩) 1 1 ([(x1, x2)].flatMap pc) rfl rfl (one_rd wr (x1, x2)) (by have := HB.out.size; simp; omega) (by have := HI.out; have := HR.out.2; omega) ?_; intro v5 w5 HO5 HB5; have HW5 : Hid (Below w.heap.size w w5) := (HB.out.alloc HB.out.size _).trans HB5.out; obtain ⟨a5, cap5, rfl, _⟩ := HO5.out.read)
            go_roundw
            case rel => exact ⟨i + 1, m + 1, a5, cap5, by simp, rfl, ⟨HL.out, by have := HI.out; omega⟩, by rw [HYES.out, List.flatMap_append]; exact HO5.out, HW5⟩
            case measure => have := HL.out; simp [intOf]; omega
          | false =>
            have hno : inS key til (x1, x2) = false := by simp [inS, geS, hg, okS, he, hl]
            have HNO : Hid ((ps.take (i + 1)).filter (inS key til) = (ps.take i).filter (inS key til)) := NO.out hno
            clear YES NO hno
            go_wp2
            go_roundw
            case rel => exact ⟨i + 1, m, av, cv, by simp, rfl, ⟨HL.out, by have := HI.out; omega⟩, by rw [HNO.out]; exact HO.out, HB⟩
            case measure => have := HL.out; simp [intOf]; omega
    · have q1 : ¬ (i : Int) < (n : Int) := by omega
      have HALL : Hid (ps.take i = ps) := List.take_of_length_le (by rw [HR.out.1.1]; omega)
      go_wp2
      go_ret
      obtain ⟨a6, c6, e6, h6, h7, h8⟩ := HO.out.read
      rw [HALL.out] at h7
      exact ⟨a6, m, c6, by rw [e6]; rfl, ⟨h7.toP, h6, h8⟩, HB⟩
end Go.Proofs.Ytnagknlfboadkaa.Oct

/- Layer 7 (tree): a key with a number. -/
namespace Go.Proofs.Ytnagknlfboadkaa.Oct
open Go.RowKit

/-- a key with a number's two letters -/
def num2 (n : Nat) : List UInt8 := [UInt8.ofNat (n / 26 % 26 + 97), UInt8.ofNat (n % 26 + 97)]
def numK (key : ByteArray) (n : Nat) : ByteArray := key ++ ⟨(num2 n).toArray⟩
theorem num_conv (w : World) (n : Nat) : (convert 63 9 (Value.slice (some { block := w.heap.size, off := 0 }) 2 2)).run Try.prog (w.alloc (Obj.cells #[Value.int IntKind.u8 ((n : Int) / 26 % 26 + 97), Value.int IntKind.u8 ((n : Int) % 26 + 97)] 5)) = .ok (.string ⟨(num2 n).toArray⟩) (w.alloc (Obj.cells #[Value.int IntKind.u8 ((n : Int) / 26 % 26 + 97), Value.int IntKind.u8 ((n : Int) % 26 + 97)] 5)) := by
  refine run_convert_bytes_back _ 63 9 5 ⟨w.heap.size, 0, none⟩ 2 (num2 n) Try.underlying63 Try.underlying5 Try.underlying9 fun j hj => ?_
  have e1 : ((UInt8.ofNat (n / 26 % 26 + 97)).toNat : Int) = (n : Int) / 26 % 26 + 97 := by
    rw [UInt8.toNat_ofNat']; omega
  have e2 : ((UInt8.ofNat (n % 26 + 97)).toNat : Int) = (n : Int) % 26 + 97 := by
    rw [UInt8.toNat_ofNat']; omega
  match j, hj with
  | 0, _ => go_simp; simp [num2]; omega
  | 1, _ => go_simp; simp [num2]; omega
theorem number_is (w : World) (key : ByteArray) (n : Nat) (hn : n < 60) (hk : key.size ≤ 100000) : Calls Try.prog 26 #[.string key, .int .i64 (n : Int)] w fun e w' => e = .returned (.string (numK key n)) ∧ Hid (Below w.heap.size w w') := by
  have q0 : (n : Int) < 60 := by omega
  have q9 : ¬ 9223372036854775807 < key.size + (num2 n).length := by simp [num2]; omega
  have HQ : Hid (∀ n : Nat, (convert 63 9 (Value.slice (some { block := w.heap.size, off := 0 }) 2 2)).run Try.prog (w.alloc (Obj.cells #[Value.int IntKind.u8 ((n : Int) / 26 % 26 + 97), Value.int IntKind.u8 ((n : Int) % 26 + 97)] 5)) = .ok (.string ⟨(num2 n).toArray⟩) (w.alloc (Obj.cells #[Value.int IntKind.u8 ((n : Int) / 26 % 26 + 97), Value.int IntKind.u8 ((n : Int) % 26 + 97)] 5))) := num_conv w
  go_enter Try.func26, Try.ntmps26
  go_wp2
  rw [HQ.out n]
  go_wp2
  go_ret
  exact ⟨rfl, (Below.refl _ w).alloc (Nat.le_refl _) _⟩
end Go.Proofs.Ytnagknlfboadkaa.Oct
