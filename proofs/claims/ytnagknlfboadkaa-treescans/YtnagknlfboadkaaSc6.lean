/-
  Layer 7 (tree): what 'from' tells of a tree, as lists; the way out behind many ranges.
  Layer 7 (tree): the closure of 'from', over a leaf.
  Layer 7 (tree): the range over a kid's iterator within the closure of 'from'.
  Layer 7 (tree): the closure of 'from', over a tree of any depth.
  Layer 7 (tree): the closure of 'Scan', over a tree of any depth.
  Layer 7 (tree): Scan, and what the statements' 'told' makes of it, over a leaf.
  Layer 7 (tree): the reference's 'Same' of two lists that are the same; 'told' of a map that no call made; the statements' 'lives'.
  Layer 7 (tree): the reference's Find, Get, Same.
  Layer 7 (tree): the reference's Put and Delete.
-/
import Derived.Test.YtnagknlfboadkaaSc5
import Derived.Sort.QuietIn
import Derived.RangeFuncNested
import Derived.RangeFuncBound
import Derived.RangeFuncCalls
import Derived.RangeFuncLeaves
import Derived.Shelf.Abstract
import Derived.Shelf.RegionOpen
import Derived.WalkKit
import Derived.OwnWalkIn
import Derived.TacticsInMore
import Derived.LoopNIn
import Derived.LoopIn
import Derived.OwnWalk
/- Layer 7 (tree): what 'from' tells of a tree, as lists; the way out behind many ranges. -/
namespace Go.Proofs.Ytnagknlfboadkaa.Oct.Wid
open Go.RowKit Go.Shelf
attribute [local go_sem] Oper.semAt_some

def mark (m : Nat) : Deferred := { target := .collected m, args := #[] }
/-- a return behind many ranges -/
theorem ret_marks {n : Nat} {tmps : Array Value} {R : Ending → World → Prop} {D : Nat} {I : World → Prop} (hI : ∀ A B, I A → BelowR D A B → I B) (hR : ∀ A v, I A → R (.returned v) A) :
    ∀ (ms : List Nat) (w : World), I w → ms.Nodup → (∀ m ∈ ms, D ≤ m ∧ w.heap[m]? = some (.deferred (some []))) → LeavesInM Fence.wide n Try.prog Try.f37 tmps R (ms.map mark) .returning w
  | [], w, hw, _, _ => ⟨_, results_none rfl _ _ _, hR _ _ hw⟩
  | m :: ms, w, hw, hn, hm => by
    have h1 := hm m List.mem_cons_self
    refine ⟨by simp, .inl ⟨_, _, rfl, run_takeDeferred h1.2, ?_⟩⟩
    refine ret_marks hI hR ms _ (hI _ _ hw (belowR_putObj _ h1.1 h1.2 def_row)) (List.nodup_cons.1 hn).2 fun m' hm' => ?_
    have h2 := hm m' (List.mem_cons_of_mem _ hm')
    refine ⟨h2.1, (World.putObj_heap_other ?_).trans h2.2⟩
    rintro rfl
    exact (List.nodup_cons.1 hn).1 hm'
end Go.Proofs.Ytnagknlfboadkaa.Oct.Wid

/- Layer 7 (tree): the closure of 'from', over a leaf. -/
namespace Go.Proofs.Ytnagknlfboadkaa.Oct.Wid
open Go.RowKit Go.Shelf
attribute [local go_sem] Oper.semAt_some

set_option maxRecDepth 100000 in
set_option maxHeartbeats 2000000 in
theorem from1_in (d l1 Bn Bk nd n cap : Nat) (a : Option Addr) (ps : List Pr) (key : ByteArray) (k : Nat) (hn : n ≤ 1000000) (hm : Mono ps key) (ha : AtP ps key k) (m₀ : Nat) (J : Nat → World → Prop) (Jx : World → Prop)
    (hJb : ∀ t A B, J t A → BelowR m₀ A B → J t B) (hJx : ∀ A, Jx A → A.cell? ⟨Bn, 0, none⟩ = some (.pointer (some ⟨nd, 0, none⟩)) ∧ Nd A nd a n cap ps (.slice none 0 0)) (hJ : ∀ t A, J t A → A.cell? ⟨Bn, 0, none⟩ = some (.pointer (some ⟨nd, 0, none⟩)) ∧ A.cell? ⟨Bk, 0, none⟩ = some (.string key) ∧ Nd A nd a n cap ps (.slice none 0 0) ∧ m₀ ≤ A.heap.size)
    (hY : ∀ t x A, J t A → (ps.drop k)[t]? = some x → YieldAt Fence.wide 0 Try.prog l1 (encQ x) A fun e B => Held m₀ A B ∧ ((e = .returned (.bool true) ∧ J (t + 1) B) ∨ (e = .returned (.bool false) ∧ Jx B)))
    (W : World) (hW : W.heap.size = m₀) (h0 : J 0 W) :
    CallsIn Fence.wide d Try.prog 37 #[.func (.yield l1) #[] #[], .pointer (some ⟨Bn, 0, none⟩), .pointer (some ⟨Bk, 0, none⟩)] W fun e B => (∃ v, e = .returned v) ∧ (J (ps.drop k).length B ∨ Jx B) := by
  refine callsIn_of_wp Try.func37 rfl trivial ?_ rfl
  simp only [Try.ntmps37, List.size_toArray, List.length_cons, List.length_nil, Nat.reduceAdd, Nat.reduceSub, Array.replicate_succ, Array.replicate_zero, List.push_toArray, List.append_toArray, List.nil_append, List.cons_append]
  have HN : Hid (n ≤ 1000000 ∧ Mono ps key ∧ AtP ps key k) := ⟨hn, hm, ha⟩
  have hJ0 := hJb 0 W (W.alloc (.cells #[.func (.yield l1) #[] #[]] 42)) h0 (BelowR.full ((Below.refl _ W).alloc (Nat.le_refl _) _) (by omega))
  obtain ⟨cn, ck, hnd, _⟩ := hJ 0 _ hJ0
  have HD : Hid (Nd (W.alloc (.cells #[.func (.yield l1) #[] #[]] 42)) nd a n cap ps (.slice none 0 0)) := hnd
  clear hn hm ha hnd
  gi_wp2_with (refine ⟨trivial, (fun h => by cases h), ?_⟩; gi_at_call 38; refine (callsIn_wide.2 (place_is _ nd a n cap ps _ key HD.out HN.out.2.1 (by have := HN.out; omega))).mono ?_; rintro e w1 ⟨k1, rfl, HA1, HB1⟩)
  have hk1 : k1 = k := HA1.out.uniq HN.out.2.2
  subst hk1
  have hkn : k1 ≤ n := by rw [← HD.out.rd.1]; exact HN.out.2.2.1
  have hJ1 : J 0 w1 := hJb 0 _ _ hJ0 (BelowR.full HB1.out (by simp; omega))
  have hy1 : w1.heap[m₀]? = some (.cells #[.func (.yield l1) #[] #[]] 42) := by
    rw [HB1.out.block m₀ (by simp; omega), ← hW]
    exact World.alloc_heap_new W _
  have HLEN : Hid (ps.length = n) := HD.out.rd.1
  have HKN : Hid (k1 ≤ n) := hkn
  clear hkn hJ0 cn ck HD HB1 HA1 h0
  obtain ⟨N, hN⟩ : ∃ N, n + 1 = N := ⟨_, rfl⟩
  have HNN : Hid (n + 1 = N) := hN
  clear hN
  gi_loopw [6] (fun u wr => ∃ i : Nat, u = .int .i64 (i : Int) ∧ Hid (k1 ≤ i ∧ i ≤ n + 1) ∧ Hid (J (if i ≤ n then i - k1 else n - k1) wr) ∧ Hid (wr.heap[m₀]? = some (.cells #[.func (.yield l1) #[] #[]] 42))) (fun u _ => N - (intOf u).toNat)
  case atStart => exact ⟨k1, rfl, ⟨Nat.le_refl _, by have := HKN.out; omega⟩, by show J _ _; rw [if_pos HKN.out, Nat.sub_self]; exact hJ1, hy1⟩
  case round =>
    clear hJ1 hy1
    obtain ⟨i, rfl, HI, HJ, HYC⟩ := hrel
    obtain ⟨cn, ck, hnd, _⟩ := hJ _ _ HJ.out
    have HD : Hid (Nd wr nd a n cap ps (.slice none 0 0)) := hnd
    have c0 := hnd.blk.cell (i := 0) rfl
    have c1 := hnd.blk.cell (i := 1) rfl
    have cy := cell_one HYC.out
    have b1 : (i : Int) ≤ 1000001 := by have := HI.out; have := HN.out; omega
    clear hnd
    by_cases hi : i < n
    · obtain ⟨x, hx⟩ : ∃ x, ps[i]? = some x := ⟨_, List.getElem?_eq_getElem (by rw [HLEN.out]; exact hi)⟩
      obtain ⟨g, off, rfl, hg, hc⟩ := HD.out.rd.2 (by omega)
      have e0 := (hc i x hx).1
      have e1 := (hc i x hx).2
      have q1 : (i : Int) ≤ (n : Int) := by omega
      have q2 : (i : Int) < (n : Int) := by omega
      have hdx : (ps.drop k1)[i - k1]? = some x := by rw [List.getElem?_drop, show k1 + (i - k1) = i by have := HI.out; omega]; exact hx
      have HJD : Hid (J (i - k1) wr.drew) := by
        have e := HJ.out
        rw [if_pos (by omega)] at e
        exact hJb _ _ _ e (BelowR.full (Below.refl _ wr).drew (by assumption))
      have HIL : Hid (i < n) := hi
      have HYA : Hid (YieldAt Fence.wide (d - 1) Try.prog l1 #[.string x.1, .string x.2] wr.drew fun e B => Held m₀ wr.drew B ∧ ((e = .returned (.bool true) ∧ J (i - k1 + 1) B) ∨ (e = .returned (.bool false) ∧ Jx B))) := YieldAt.deep (d - 1) (hY _ _ wr.drew HJD.out hdx)
      have HX : Hid (ps[i]? = some x) := hx
      clear hc hdx hx hi
      gi_wp2_with (refine ⟨trivial, (fun h => by cases h), ?_⟩; gi_at_call 39; refine (callsIn_wide.2 (leaf_is wr nd c1)).mono ?_; rintro e w2 ⟨rfl, rfl⟩)
      refine reg11 cy cn c0 e0 e1 q2 HYA.out ?_ ?_
      · rintro e B ⟨hH, hD⟩
        have hyB : B.cell? ⟨m₀, 0, none⟩ = some (.func (.yield l1) #[] #[]) := cell_one (hH.box HYC.out (by decide) (Nat.le_refl _))
        have fin : ∀ (v : Bool), e = .returned (.bool v) → B.cell? ⟨Bn, 0, none⟩ = some (.pointer (some ⟨nd, 0, none⟩)) → Nd B nd (some ⟨g, off, none⟩) n cap ps (.slice none 0 0) → ∃ v : Bool, e = .returned (.bool v) ∧ B.cell? ⟨m₀, 0, none⟩ = some (.func (.yield l1) #[] #[]) ∧ B.cell? ⟨Bn, 0, none⟩ = some (.pointer (some ⟨nd, 0, none⟩)) ∧ B.cell? ⟨nd, 0, none⟩ = some (.slice (some ⟨g, off, none⟩) n cap) ∧ B.cell? ⟨g, off + i * 2, none⟩ = some (.string x.1) ∧ B.cell? ⟨g, off + i * 2 + 1, none⟩ = some (.string x.2) := by
          intro v h1 h2 h3
          obtain ⟨g', off', e', _, hc⟩ := h3.rd.2 (by have := HIL.out; omega)
          cases e'
          exact ⟨v, h1, hyB, h2, h3.blk.cell (i := 0) rfl, (hc i x HX.out).1, (hc i x HX.out).2⟩
        rcases hD with ⟨h1, h2⟩ | ⟨h1, h2⟩
        · obtain ⟨r1, _, r3, _⟩ := hJ _ _ h2
          exact fin true h1 r1 r3
        · obtain ⟨r1, r3⟩ := hJx _ h2
          exact fin false h1 r1 r3
      · rintro v B ⟨hH, hD⟩
        have hyB : B.heap[m₀]? = some (.cells #[.func (.yield l1) #[] #[]] 42) := hH.box HYC.out (by decide) (Nat.le_refl _)
        have HYB : Hid (B.heap[m₀]? = some (.cells #[.func (.yield l1) #[] #[]] 42)) := hyB
        clear hyB hH
        cases v with
        | true =>
          have HJ3 : Hid (J (i - k1 + 1) B) := by
            rcases hD with ⟨h1, h2⟩ | ⟨h1, h2⟩
            · exact h2
            · cases h1
          clear hD
          gi_wp2
          go_roundw
          case rel =>
            refine ⟨i + 1, by simp, ⟨by have := HI.out; omega, by have := HIL.out; omega⟩, ?_, HYB⟩
            show J _ _
            rw [if_pos (by have := HIL.out; omega), show i + 1 - k1 = i - k1 + 1 by have := HI.out; omega]
            exact HJ3.out
          case measure => have := HNN.out; have := HIL.out; simp [intOf]; omega
        | false =>
          have HJ3 : Hid (Jx B) := by
            rcases hD with ⟨h1, h2⟩ | ⟨h1, h2⟩
            · cases h1
            · exact h2
          clear hD
          gi_wp2
          refine bodyPost_ret (results_none rfl _ _ _) rfl ?_
          exact ⟨⟨_, rfl⟩, .inr HJ3.out⟩
    · by_cases hin : i = n
      · subst hin
        have q1 : (i : Int) ≤ (i : Int) := Int.le_refl _
        have q2 : ¬ (i : Int) < (i : Int) := by omega
        have HJN : Hid (J (i - k1) wr) := by have e := HJ.out; rw [if_pos (Nat.le_refl _)] at e; exact e
        gi_wp2_with (refine ⟨trivial, (fun h => by cases h), ?_⟩; gi_at_call 39; refine (callsIn_wide.2 (leaf_is wr nd c1)).mono ?_; rintro e w2 ⟨rfl, rfl⟩)
        refine reg11n cn c0 (by omega) ?_
        gi_wp2
        go_roundw
        case rel =>
          refine ⟨i + 1, by simp, ⟨by have := HI.out; omega, Nat.le_refl _⟩, ?_, HYC.out⟩
          show J _ _
          rw [if_neg (by omega)]
          exact hJb _ _ _ HJN.out (BelowR.full (Below.refl _ wr).drew (by assumption))
        case measure => have := HNN.out; simp [intOf]; omega
      · have q1 : ¬ (i : Int) ≤ (n : Int) := by omega
        have HJN : Hid (J (n - k1) wr) := by have e := HJ.out; rw [if_neg (by omega)] at e; exact e
        gi_wp2
        go_end0
        refine ⟨⟨_, rfl⟩, .inl ?_⟩
        rw [HLEN.out]
        exact HJN.out
end Go.Proofs.Ytnagknlfboadkaa.Oct.Wid

/- Layer 7 (tree): the range over a kid's iterator within the closure of 'from'. -/
namespace Go.Proofs.Ytnagknlfboadkaa.Oct.Wid
open Go.RowKit Go.Shelf
attribute [local go_sem] Oper.semAt_some

def FromC (d : Nat) : Prop := ∀ (dp l1 Bn Bk nd : Nat) (t : T d) (key : ByteArray) (A0 : World), Lies A0 d t nd → Good d t → ∀ (m₀ : Nat) (J : Nat → World → Prop) (Jx : World → Prop),
    (∀ s A B, J s A → BelowR m₀ A B → J s B) → (∀ A B, Jx A → BelowR m₀ A B → Jx B) →
    (∀ A, Jx A → A.cell? ⟨Bn, 0, none⟩ = some (.pointer (some ⟨nd, 0, none⟩)) ∧ Kept A0 A) →
    (∀ s A, J s A → A.cell? ⟨Bn, 0, none⟩ = some (.pointer (some ⟨nd, 0, none⟩)) ∧ A.cell? ⟨Bk, 0, none⟩ = some (.string key) ∧ Kept A0 A ∧ m₀ ≤ A.heap.size) →
    (∀ s x A, J s A → (ge key (tl d t))[s]? = some x → YieldAt Fence.wide 0 Try.prog l1 (encQ x) A fun e B => Held m₀ A B ∧ ((e = .returned (.bool true) ∧ J (s + 1) B) ∨ (e = .returned (.bool false) ∧ Jx B))) →
    ∀ (W : World), W.heap.size = m₀ → J 0 W →
    CallsIn Fence.wide dp Try.prog 37 #[.func (.yield l1) #[] #[], .pointer (some ⟨Bn, 0, none⟩), .pointer (some ⟨Bk, 0, none⟩)] W fun e B => (∃ v, e = .returned v) ∧ (J (ge key (tl d t)).length B ∨ Jx B)

def Marked (ms : List Nat) (A : World) : Prop := ∀ m ∈ ms, A.heap[m]? = some (.deferred (some []))
theorem Marked.held {ms : List Nat} {A B : World} {m₀ : Nat} (h : Marked ms A) (hH : Held m₀ A B) (hm : ∀ m ∈ ms, m₀ ≤ m) : Marked ms B := fun m hmm => hH.obj (h m hmm) Oct.def_row (hm m hmm)
theorem Marked.below {ms : List Nat} {A B : World} {D : Nat} (h : Marked ms A) (hb : Below D A B) (hm : ∀ m ∈ ms, m < D) : Marked ms B := fun m hmm => (hb.block _ (hm m hmm)).trans (h m hmm)
/-- between two rounds of the range over a kid's iterator -/
structure KInv (J : Nat → World → Prop) (o m₀ l1 b0 kb : Nat) (key : ByteArray) (ms : List Nat) (s : Nat) (A : World) : Prop where
  j : J (o + s) A
  y : A.heap[m₀]? = some (.cells #[.func (.yield l1) #[] #[]] 42)
  n : A.heap[b0]? = some (.cells #[.pointer (some ⟨kb, 0, none⟩)] 46)
  k : A.heap[b0 + 1]? = some (.cells #[.string key] 9)
  mr : Marked ms A
structure KOut (Jx : World → Prop) (b0 kb : Nat) (ms : List Nat) (c : Code) (A : World) : Prop where
  ret : c = .ret
  j : Jx A
  n : A.heap[b0]? = some (.cells #[.pointer (some ⟨kb, 0, none⟩)] 46)
  mr : Marked ms A

set_option maxRecDepth 100000 in
set_option maxHeartbeats 2000000 in
theorem kid_range {Q : Exit → Act → World → Prop} {y0 y1 y2 y4 y5 y6 y7 y8 y9 y10 y11 y12 y13 y14 y15 y16 y17 y18 y19 y20 y21 y22 y23 y24 y25 y26 y27 y28 y29 y30 y31 y32 y33 y34 y35 y36 y37 y39 y40 y41 y42 y43 y44 y45 y46 y47 y48 y49 y50 y51 y52 y53 y54 y55 y56 y57 y58 y59 y60 y61 y62 y63 y64 y65 y66 y67 y68 y69 y70 y71 y72 y73 : Value} {ds : List Deferred} {w1 : World} {dp l1 m₀ b0 kb d o : Nat} (t : T d) (key : ByteArray) (A0 : World) (hl0 : Lies A0 d t kb) (hg : Good d t) (IH : FromC d) (J : Nat → World → Prop) (Jx : World → Prop) (ms : List Nat)
    (hJb : ∀ s A B, J s A → BelowR m₀ A B → J s B) (hJxb : ∀ A B, Jx A → BelowR m₀ A B → Jx B) (hL : ∀ s A, J s A → Kept A0 A) (hLx : ∀ A, Jx A → Kept A0 A)
    (hY : ∀ s x A, J (o + s) A → (ge key (tl d t))[s]? = some x → YieldAt Fence.wide 0 Try.prog l1 (encQ x) A fun e B => Held m₀ A B ∧ ((e = .returned (.bool true) ∧ J (o + s + 1) B) ∨ (e = .returned (.bool false) ∧ Jx B)))
    (hb0 : m₀ < b0) (hsz : w1.heap.size = b0 + 2) (hm : ∀ m ∈ ms, m₀ ≤ m ∧ m < b0) (h0 : KInv J o m₀ l1 b0 kb key ms 0 w1)
    (hdone : ∀ A, J (o + (ge key (tl d t)).length) A → A.heap[m₀]? = some (.cells #[.func (.yield l1) #[] #[]] 42) → Marked (w1.heap.size :: ms) A → Q .normal { tmps := #[y0, y1, y2, .pointer (some ⟨m₀, 0, none⟩), y4, y5, y6, y7, y8, y9, y10, y11, y12, y13, y14, y15, y16, y17, y18, y19, y20, y21, y22, y23, y24, y25, y26, y27, y28, y29, y30, y31, y32, y33, y34, y35, y36, y37, .func (.func 37) #[] #[.pointer (some ⟨b0, 0, none⟩), .pointer (some ⟨b0 + 1, 0, none⟩)], y39, y40, y41, y42, y43, y44, y45, y46, y47, y48, y49, y50, y51, y52, y53, y54, y55, y56, y57, y58, y59, y60, y61, y62, y63, y64, y65, y66, y67, y68, y69, y70, y71, y72, y73], defers := mark w1.heap.size :: ds } A)
    (hstop : ∀ A, Jx A → Marked (w1.heap.size :: ms) A → Q .ret { tmps := #[y0, y1, y2, .pointer (some ⟨m₀, 0, none⟩), y4, y5, y6, y7, y8, y9, y10, y11, y12, y13, y14, y15, y16, y17, y18, y19, y20, y21, y22, y23, y24, y25, y26, y27, y28, y29, y30, y31, y32, y33, y34, y35, y36, y37, .func (.func 37) #[] #[.pointer (some ⟨b0, 0, none⟩), .pointer (some ⟨b0 + 1, 0, none⟩)], y39, y40, y41, y42, y43, y44, y45, y46, y47, y48, y49, y50, y51, y52, y53, y54, y55, y56, y57, y58, y59, y60, y61, y62, y63, y64, y65, y66, y67, y68, y69, y70, y71, y72, y73], defers := mark w1.heap.size :: ds } A) :
    (Code.rangeFunc (Operand.tmp 38) #[39, 40] (Code.seq (Code.region 8 #[{ dst := some 7, op := Op.assign (Operand.tmp 39), type := 9, pos := "node.go:72", after := #[], guard := none }] false) (Code.region 9 #[{ dst := some 8, op := Op.assign (Operand.tmp 40), type := 9, pos := "node.go:72", after := #[], guard := none }] false)) (Code.block 3 (Code.seq (Code.region 10 #[{ dst := some 41, op := Op.load 42 (Operand.tmp 3), type := 42, pos := "node.go:73", after := #[], guard := none }, { dst := some 42, op := Op.move (Operand.tmp 7), type := 9, pos := "node.go:73", after := #[], guard := none }, { dst := some 43, op := Op.move (Operand.tmp 8), type := 9, pos := "node.go:73", after := #[], guard := none }, { dst := some 44, op := Op.call { callee := Callee.value (Operand.tmp 41), args := #[Operand.tmp 42, Operand.tmp 43], argTypes := #[9, 9] }, type := 4, pos := "node.go:73", after := #[{ on := 0, ground := Ground.data }, { on := 1, ground := Ground.data }, { on := 2, ground := Ground.data }], guard := none }, { dst := some 45, op := Op.unOp UnOp.not 4 (Operand.tmp 44), type := 4, pos := "node.go:73", after := #[{ on := 3, ground := Ground.data }], guard := none }] false) (Code.cond (Operand.tmp 45) Code.ret Code.skip)))).wpIn Fence.wide dp Try.prog Q { tmps := #[y0, y1, y2, .pointer (some ⟨m₀, 0, none⟩), y4, y5, y6, y7, y8, y9, y10, y11, y12, y13, y14, y15, y16, y17, y18, y19, y20, y21, y22, y23, y24, y25, y26, y27, y28, y29, y30, y31, y32, y33, y34, y35, y36, y37, .func (.func 37) #[] #[.pointer (some ⟨b0, 0, none⟩), .pointer (some ⟨b0 + 1, 0, none⟩)], y39, y40, y41, y42, y43, y44, y45, y46, y47, y48, y49, y50, y51, y52, y53, y54, y55, y56, y57, y58, y59, y60, y61, y62, y63, y64, y65, y66, y67, y68, y69, y70, y71, y72, y73], defers := ds } w1 := by
  refine rangeLeave (gf := 37) (lb := #[.pointer (some ⟨b0, 0, none⟩), .pointer (some ⟨b0 + 1, 0, none⟩)]) rfl (enters_of Try.func37 (by kernel_rfl) rfl) (fun _ x => encQ x) (fun _ _ => rfl) (ge key (tl d t))
    (KInv J o m₀ l1 b0 kb key ms) (KOut Jx b0 kb ms) ?hI ?hIx h0
    (fun _ x => { tmps := #[y0, y1, y2, .pointer (some ⟨m₀, 0, none⟩), y4, y5, y6, .string x.1, .string x.2, y9, y10, y11, y12, y13, y14, y15, y16, y17, y18, y19, y20, y21, y22, y23, y24, y25, y26, y27, y28, y29, y30, y31, y32, y33, y34, y35, y36, y37, .func (.func 37) #[] #[.pointer (some ⟨b0, 0, none⟩), .pointer (some ⟨b0 + 1, 0, none⟩)], .string x.1, .string x.2, y41, y42, y43, y44, y45, y46, y47, y48, y49, y50, y51, y52, y53, y54, y55, y56, y57, y58, y59, y60, y61, y62, y63, y64, y65, y66, y67, y68, y69, y70, y71, y72, y73], defers := [] }) ?assign ?body ?iter ?done ?stop
  case hI =>
    rintro s A B h hb
    rw [hsz] at hb
    exact ⟨hJb _ A B h.j (hb.mono (by omega)), (hb.below.block _ (by omega)).trans h.y, (hb.below.block _ (by omega)).trans h.n, (hb.below.block _ (by omega)).trans h.k, h.mr.below hb.below fun m hmm => by have := hm m hmm; omega⟩
  case hIx =>
    rintro c A B h hb
    rw [hsz] at hb
    exact ⟨h.ret, hJxb A B h.j (hb.mono (by omega)), (hb.below.block _ (by omega)).trans h.n, h.mr.below hb.below fun m hmm => by have := hm m hmm; omega⟩
  case assign =>
    intro s x A K hK
    dsimp only [encQ]
    gi_wp2
    exact hK
  case body =>
    rintro s x A h hx hlt
    have HI : Hid (KInv J o m₀ l1 b0 kb key ms s A) := h
    have cy := cell_one h.y
    obtain ⟨fn, tmps, asg, bdy, hy, hR⟩ : YieldAt Fence.wide (dp - 1 - 1 - 1) Try.prog l1 #[.string x.1, .string x.2] A fun e B => Held m₀ A B ∧ ((e = .returned (.bool true) ∧ J (o + s + 1) B) ∨ (e = .returned (.bool false) ∧ Jx B)) := YieldAt.deep _ (hY s x A h.j hx)
    have HX : Hid (∀ B, Held m₀ A B → B.heap[m₀]? = some (.cells #[.func (.yield l1) #[] #[]] 42) ∧ B.heap[b0]? = some (.cells #[.pointer (some ⟨kb, 0, none⟩)] 46) ∧ B.heap[b0 + 1]? = some (.cells #[.string key] 9) ∧ Marked ms B ∧ Held w1.heap.size A B) := fun B hB =>
      ⟨hB.box HI.out.y (by decide) (Nat.le_refl _), hB.box HI.out.n (by decide) (by omega), hB.box HI.out.k (by decide) (by omega), HI.out.mr.held hB (fun m hmm => (hm m hmm).1), hB.mono (by omega)⟩
    clear hx hlt h
    gi_wp2
    refine ⟨(fun h => by cases h), hR.mono ?_⟩
    rintro e B ⟨hH, ⟨rfl, hJ3⟩ | ⟨rfl, hJ3⟩⟩
    · have HJ3 : Hid (J (o + s + 1) B ∧ Held m₀ A B) := ⟨hJ3, hH⟩
      clear hy hR hJ3 hH cy
      gi_wp2
      have hx := HX.out B HJ3.out.2
      exact ⟨⟨HJ3.out.1, hx.1, hx.2.1, hx.2.2.1, hx.2.2.2.1⟩, hx.2.2.2.2⟩
    · have HJ3 : Hid (Jx B ∧ Held m₀ A B) := ⟨hJ3, hH⟩
      clear hy hR hJ3 hH cy
      gi_wp2
      have hx := HX.out B HJ3.out.2
      exact ⟨⟨rfl, HJ3.out.1, hx.2.1, hx.2.2.2.1⟩, hx.2.2.2.2⟩
  case iter =>
    intro J' Jx' A hS hB hJ'b hJx'b hJ'I hJ'X hY' h0'
    refine IH _ _ _ _ kb t key A0 hl0 hg (w1.heap.size + 2) J' Jx' hJ'b hJx'b ?_ ?_ (fun s x A hj hx => YieldAt.deep 0 (hY' s x A hj hx)) A hS h0'
    · intro A hA
      obtain ⟨⟨c, hc⟩, _⟩ := hJ'X A hA
      exact ⟨cell_one hc.n, hLx _ hc.j⟩
    · intro s A hA
      obtain ⟨hI, hsz⟩ := hJ'I s A hA
      exact ⟨cell_one hI.n, cell_one hI.k, hL _ _ hI.j, hsz⟩
  case done =>
    rintro A h hK
    exact hdone A h.j h.y fun m hmm => by
      rcases List.mem_cons.1 hmm with rfl | hmm
      · exact hK
      · exact h.mr m hmm
  case stop =>
    rintro c A h hK
    obtain rfl := h.ret
    clear hsz
    gi_wp2
    exact hstop A h.j fun m hmm => by
      rcases List.mem_cons.1 hmm with rfl | hmm
      · exact hK
      · exact h.mr m hmm
end Go.Proofs.Ytnagknlfboadkaa.Oct.Wid

/- Layer 7 (tree): the closure of 'from', over a tree of any depth. -/
namespace Go.Proofs.Ytnagknlfboadkaa.Oct.Wid
open Go.RowKit Go.Shelf
attribute [local go_sem] Oper.semAt_some

/-- the closure's act between two rounds -/
inductive ActOf (Bn Bk m₀ i : Nat) (ds : List Deferred) : Act → Prop
  | mk (y0 y4 y5 y7 y8 y9 y10 y11 y12 y13 y14 y15 y16 y17 y18 y19 y20 y21 y22 y23 y24 y25 y26 y27 y28 y29 y30 y31 y32 y33 y34 y35 y36 y37 y38 y39 y40 y41 y42 y43 y44 y45 y46 y47 y48 y49 y50 y51 y52 y53 y54 y55 y56 y57 y58 y59 y60 y61 y62 y63 y64 y65 y66 y67 y68 y69 y70 y71 y72 y73 : Value) : ActOf Bn Bk m₀ i ds { tmps := #[y0, .pointer (some ⟨Bn, 0, none⟩), .pointer (some ⟨Bk, 0, none⟩), .pointer (some ⟨m₀, 0, none⟩), y4, y5, .int .i64 (i : Int), y7, y8, y9, y10, y11, y12, y13, y14, y15, y16, y17, y18, y19, y20, y21, y22, y23, y24, y25, y26, y27, y28, y29, y30, y31, y32, y33, y34, y35, y36, y37, y38, y39, y40, y41, y42, y43, y44, y45, y46, y47, y48, y49, y50, y51, y52, y53, y54, y55, y56, y57, y58, y59, y60, y61, y62, y63, y64, y65, y66, y67, y68, y69, y70, y71, y72, y73], defers := ds }
theorem rounds_of {F : Fence} {n : Nat} {P : Program} {c : Code} {Q : Exit → Act → World → Prop} {Inv : Act → World → Nat → Prop} (h0 : ∀ a w, ¬ Inv a w 0)
    (h : ∀ m a w, (∀ a' w', Inv a' w' m → Code.roundsIn F n P c Q m a' w') → Inv a w (m + 1) → Code.roundsIn F n P c Q (m + 1) a w) (m : Nat) {a : Act} {w : World} (hi : Inv a w m) : (Code.loop c).wpIn F n P Q a w := by
  refine wpIn_loop_rounds m ?_
  have key : ∀ m a w, Inv a w m → Code.roundsIn F n P c Q m a w := by
    intro m
    induction m with
    | zero => intro a w hi; exact (h0 a w hi).elim
    | succ m ih => intro a w hi; exact h m a w ih hi
  exact key m a w hi
/-- between two rounds of the loop over a node's kids -/
structure NInv (J : Nat → World → Prop) (pl : Nat → Nat) (k n m₀ l1 i : Nat) (ms : List Nat) (A : World) : Prop where
  lo : k ≤ i
  le : i ≤ n + 1
  j : J (pl i) A
  y : A.heap[m₀]? = some (.cells #[.func (.yield l1) #[] #[]] 42)
  nd : ms.Nodup
  mr : Marked ms A
  mlo : ∀ m ∈ ms, m₀ ≤ m
  sz : m₀ < A.heap.size
theorem NInv.full {J : Nat → World → Prop} {pl : Nat → Nat} {k n m₀ l1 i : Nat} {ms : List Nat} {A B : World} (h : NInv J pl k n m₀ l1 i ms A) (hJb : ∀ s A B, J s A → BelowR m₀ A B → J s B) (hb : Below A.heap.size A B) : NInv J pl k n m₀ l1 i ms B :=
  ⟨h.lo, h.le, hJb _ _ _ h.j (BelowR.full hb (Nat.le_of_lt h.sz)), (hb.block _ h.sz).trans h.y, h.nd, fun m hm => (hb.block _ (Array.getElem?_eq_some_iff.1 (h.mr m hm)).1).trans (h.mr m hm), h.mlo, Nat.lt_of_lt_of_le h.sz hb.size⟩

set_option maxRecDepth 100000 in
set_option maxHeartbeats 2000000 in
theorem from_node (d : Nat) (IH : FromC d) : FromC (d + 1) := by
  intro dp l1 Bn Bk nd t key A0 hl0 hg m₀ J Jx hJb hJxb hJx hJ hY W hW h0
  obtain ⟨a, n, cap, a', n', cap', bs, g1, g2, g3, g4, g5, g6⟩ := hl0
  refine callsIn_of_wp_marks Try.func37 rfl trivial ?_ rfl
  simp only [Try.ntmps37, List.size_toArray, List.length_cons, List.length_nil, Nat.reduceAdd, Nat.reduceSub, Array.replicate_succ, Array.replicate_zero, List.push_toArray, List.append_toArray, List.nil_append, List.cons_append]
  have hJ0 := hJb 0 W (W.alloc (.cells #[.func (.yield l1) #[] #[]] 42)) h0 (BelowR.full ((Below.refl _ W).alloc (Nat.le_refl _) _) (by omega))
  have hris : Ris t.1 := ris_own hg.ris hg.wf.1
  obtain ⟨cn, ck, hnd, _⟩ := hJ 0 _ hJ0
  obtain ⟨k, ha⟩ := find_at t.1 key (ris_mono hris key)
  have HD : Hid (Nd (W.alloc (.cells #[.func (.yield l1) #[] #[]] 42)) nd a n cap t.1 (.slice a' n' cap')) := g1.fix hnd
  have HN : Hid (AtP t.1 key k ∧ Mono t.1 key ∧ n ≤ 7 ∧ t.1.length = n) := ⟨ha, ris_mono hris key, by rw [← g1.rd.1]; exact hg.most, g1.rd.1⟩
  have HG1 : Hid (Nd A0 nd a n cap t.1 (.slice a' n' cap')) := g1
  have HG3 : Hid (RdK A0 a' n' bs) := g3
  have HG6 : Hid (∀ (i : Nat) (k : T d) (b' : Nat), t.2[i]? = some k → bs[i]? = some b' → Lies A0 d k b') := g6
  clear g1 g2 g3 g4 g6 ha hnd
  gi_wp2_with (refine ⟨trivial, (fun h => by cases h), ?_⟩; gi_at_call 38; refine (callsIn_wide.2 (place_is _ nd a n cap t.1 _ key HD.out HN.out.2.1 (by have := HN.out; omega))).mono ?_; rintro e w1 ⟨k1, rfl, HA1, HB1⟩)
  have hk1 : k1 = k := HA1.out.uniq HN.out.1
  subst hk1
  have hJ1 : J 0 w1 := hJb 0 _ _ hJ0 (BelowR.full HB1.out (by simp; omega))
  have hy1 : w1.heap[m₀]? = some (.cells #[.func (.yield l1) #[] #[]] 42) := by
    rw [HB1.out.block m₀ (by simp; omega), ← hW]
    exact World.alloc_heap_new W _
  have hsz1 : m₀ < w1.heap.size := (Array.getElem?_eq_some_iff.1 hy1).1
  have hll : (t.2.map (tl d)).length = t.1.length + 1 := by rw [List.length_map]; exact hg.wf.1
  have hkn : k1 ≤ n := by rw [← HN.out.2.2.2]; exact HN.out.1.1
  obtain ⟨pl, hpl⟩ : ∃ pl : Nat → Nat, pl = fun i => if i ≤ n then Offs key (t.2.map (tl d)) t.1 i else (ge key (tl (d + 1) t)).length := ⟨_, rfl⟩
  have hplA : ∀ i, i ≤ n → pl i = Offs key (t.2.map (tl d)) t.1 i := fun i hi => by rw [hpl]; exact if_pos hi
  have hplB : ∀ i, ¬ i ≤ n → pl i = (ge key (tl (d + 1) t)).length := fun i hi => by rw [hpl]; exact if_neg hi
  clear hpl
  have hp0 : pl k1 = 0 := by rw [hplA _ hkn]; exact offs_first hll hg.ris HN.out.1
  refine rounds_of (Inv := fun a' A m => ∃ (i : Nat) (ms : List Nat), ActOf Bn Bk m₀ i (ms.map mark) a' ∧ NInv J pl k1 n m₀ l1 i ms A ∧ n + 2 ≤ m + i) ?_ ?_ (n + 3) ⟨k1, [], ActOf.mk .., ⟨Nat.le_refl _, by omega, by rw [hp0]; exact hJ1, hy1, List.nodup_nil, (fun m hm => by cases hm), (fun m hm => by cases hm), hsz1⟩, by omega⟩
  · rintro a' A ⟨i, ms, _, h2, h3⟩
    have := h2.le; omega
  clear hJ1 hy1 hsz1 hJ0 h0 cn ck HD HB1 HA1 hp0
  rintro m act A ih ⟨i, ms, hact, hI, hm⟩
  cases hact
  have HI : Hid (NInv J pl k1 n m₀ l1 i ms A) := hI
  have HM : Hid (n + 2 ≤ m + 1 + i) := hm
  rw [roundsIn_succ]
  generalize Code.roundsIn Fence.wide dp Try.prog _ _ m = KK at ih ⊢
  have HIH : Hid (∀ a' w', (∃ (i : Nat) (ms : List Nat), ActOf Bn Bk m₀ i (ms.map mark) a' ∧ NInv J pl k1 n m₀ l1 i ms w' ∧ n + 2 ≤ m + i) → KK a' w') := ih
  clear ih
  obtain ⟨cn, ck, hkept, _⟩ := hJ _ _ hI.j
  have c0 := (HG1.out.fix hkept).blk.cell (i := 0) rfl
  have c1 := (HG1.out.fix hkept).blk.cell (i := 1) rfl
  have b1 : (i : Int) ≤ 1000001 := by have := HI.out.le; have := HN.out; omega
  clear hI hm
  by_cases hi : i ≤ n
  · have h3 := HG3.out.fix hkept
    have hn'b : bs.length = n' := h3.1
    have hti : i < t.2.length := by rw [hg.wf.1, HN.out.2.2.2]; omega
    have hbi : i < bs.length := by rw [g5]; exact hti
    obtain ⟨kid, hkid⟩ : ∃ kid, t.2[i]? = some kid := ⟨_, List.getElem?_eq_getElem hti⟩
    obtain ⟨kb, hkb⟩ : ∃ kb, bs[i]? = some kb := ⟨_, List.getElem?_eq_getElem hbi⟩
    have HK : Hid (Lies A0 d kid kb ∧ Good d kid ∧ t.2[i]? = some kid ∧ i ≤ n) := ⟨HG6.out i kid kb hkid hkb, (hg.kid hkid).1, hkid, hi⟩
    obtain ⟨g, off, rfl, _, hc⟩ := h3.2 (by omega)
    have ckb := hc i kb hkb
    have q1 : (i : Int) ≤ (n : Int) := by omega
    have q2 : (i : Int) < (n' : Int) := by omega
    have HZ : Hid (((n' : Int) == 0) = false) := by show _ = _; simp; omega
    clear h3 hc hn'b hbi hkid hkb hti
    gi_wp2_with (refine ⟨trivial, (fun h => by cases h), ?_⟩; gi_at_call 39; refine (callsIn_wide.2 (isLeaf_any A nd _ n' cap' false HZ.out c1)).mono ?_; rintro e w2 ⟨rfl, rfl⟩)
    refine reg7 ⟨cn, ck, c1, ckb⟩ q2 (callsIn_wide.2 (from_is A.drew (some ⟨kb, 0, none⟩) key)) ?_ ?_
    · rintro e B ⟨rfl, HB⟩
      have hB : Below A.heap.size A B := by rw [HB.out]; exact (((Below.refl _ A).drew).alloc (Nat.le_refl _) _).alloc (by simp) _
      have hgr := below_grown hB none
      exact ⟨_, rfl, hgr.cell cn (by simp), hgr.cell ck (by simp), hgr.cell c1 (by simp), hgr.cell ckb (by simp)⟩
    · rintro v B ⟨hv, HB⟩
      cases hv
      have HBB : Hid (Below A.heap.size A B) := by show Below _ _ _; rw [HB.out]; exact (((Below.refl _ A).drew).alloc (Nat.le_refl _) _).alloc (by simp) _
      have HSZ : Hid (B.heap.size = A.heap.size + 2) := by show _ = _; rw [HB.out]; simp
      have HNI : Hid (NInv J pl k1 n m₀ l1 i ms B) := HI.out.full hJb HBB.out
      have hbn : B.heap[A.heap.size]? = some (.cells #[.pointer (some ⟨kb, 0, none⟩)] 46) := by
        rw [HB.out, Below.heap_alloc _ _ _ (by simp)]; exact World.alloc_heap_new A.drew _
      have hbk : B.heap[A.heap.size + 1]? = some (.cells #[.string key] 9) := by
        have e := World.alloc_heap_new (A.drew.alloc (.cells #[.pointer (some ⟨kb, 0, none⟩)] 46)) (.cells #[.string key] 9)
        rw [World.size_alloc] at e
        rw [HB.out]; exact e
      have HMS : Hid (∀ m ∈ ms, m₀ ≤ m ∧ m < A.heap.size) := fun m hm => ⟨HI.out.mlo m hm, (Array.getElem?_eq_some_iff.1 (HI.out.mr m hm)).1⟩
      have HND : Hid ((B.heap.size :: ms).Nodup ∧ ∀ m ∈ B.heap.size :: ms, m₀ ≤ m) := ⟨List.nodup_cons.2 ⟨fun hm => by have := HMS.out _ hm; have := HSZ.out; omega, HI.out.nd⟩, fun m hm => by
        rcases List.mem_cons.1 hm with rfl | hm
        · have := HSZ.out; have := HI.out.sz; omega
        · exact HI.out.mlo m hm⟩
      have HOUT : Hid (∀ (tm : Array Value) (Z : World), (J (ge key (tl (d + 1) t)).length Z ∨ Jx Z) → Marked (B.heap.size :: ms) Z → LeavesInM Fence.wide dp Try.prog Try.f37 tm (fun e B => (∃ v, e = .returned v) ∧ (J (ge key (tl (d + 1) t)).length B ∨ Jx B)) (mark B.heap.size :: ms.map mark) .returning Z) := fun tm Z hZ hM =>
        ret_marks (D := m₀) (I := fun A => J (ge key (tl (d + 1) t)).length A ∨ Jx A) (fun A B h hb => h.imp (fun j => hJb _ A B j hb) (fun j => hJxb A B j hb)) (fun A v h => ⟨⟨v, rfl⟩, h⟩) (B.heap.size :: ms) Z hZ HND.out.1 (fun m hm => ⟨HND.out.2 m hm, hM m hm⟩)
      clear HB HBB cn ck c0 c1 ckb hkept
      gi_wp2
      refine kid_range kid key A0 HK.out.1 HK.out.2.1 IH J Jx ms (o := pl i) (b0 := A.heap.size) hJb hJxb (fun s A h => (hJ s A h).2.2.1) (fun A h => (hJx A h).2) ?_ HI.out.sz HSZ.out HMS.out ⟨HNI.out.j, HNI.out.y, hbn, hbk, HNI.out.mr⟩ ?_ ?_
      · intro s x Z hj hx
        rw [hplA i HK.out.2.2.2] at hj ⊢
        exact hY _ x Z hj (ge_kid hll (kid_map HK.out.2.2.1) hx)
      · intro Z hj hy hM
        obtain ⟨cn, ck, hkz, hz⟩ := hJ _ _ hj
        have c0 := (HG1.out.fix hkz).blk.cell (i := 0) rfl
        have cy := cell_one hy
        have HJZ : Hid (J (pl i + (ge key (tl d kid)).length) Z) := hj
        have HYZ : Hid (Z.heap[m₀]? = some (.cells #[.func (.yield l1) #[] #[]] 42)) := hy
        have HMZ : Hid (Marked (B.heap.size :: ms) Z.drew) := hM
        have HZS : Hid (m₀ ≤ Z.heap.size) := hz
        clear hbn hbk hj hy hM hz q2
        dsimp only
        gi_wp2
        by_cases hin : i < n
        · obtain ⟨x, hx⟩ : ∃ x, t.1[i]? = some x := ⟨_, List.getElem?_eq_getElem (by rw [HN.out.2.2.2]; exact hin)⟩
          have hgx : geS x.1 key = true := HN.out.1.2.2 i x HI.out.lo hx
          obtain ⟨g2, off2, rfl, _, hc⟩ := (HG1.out.fix hkz).rd.2 (by omega)
          have e0 := (hc i x hx).1
          have e1 := (hc i x hx).2
          have q3 : (i : Int) < (n : Int) := by omega
          have HJD : Hid (J (pl i + (ge key (tl d kid)).length) Z.drew) := hJb _ _ _ HJZ.out (BelowR.full (Below.refl _ Z).drew HZS.out)
          have HPN : Hid (pl (i + 1) = pl i + (ge key (tl d kid)).length + 1) := by
            show _ = _
            rw [hplA _ (by omega), hplA _ (by omega)]; exact offs_next hll (kid_map HK.out.2.2.1) hx hgx
          have HYA : Hid (YieldAt Fence.wide (dp - 1) Try.prog l1 #[.string x.1, .string x.2] Z.drew fun e B => Held m₀ Z.drew B ∧ ((e = .returned (.bool true) ∧ J (pl i + (ge key (tl d kid)).length + 1) B) ∨ (e = .returned (.bool false) ∧ Jx B))) := YieldAt.deep (dp - 1) (hY _ x Z.drew HJD.out (by rw [hplA _ (by omega)]; exact ge_pair hll (kid_map HK.out.2.2.1) hx hgx))
          have HX : Hid (t.1[i]? = some x ∧ i < n) := ⟨hx, hin⟩
          clear hc hx hgx hin
          refine reg11 cy cn c0 e0 e1 q3 HYA.out ?_ ?_
          · rintro e Y ⟨hH, hD⟩
            have hyB : Y.cell? ⟨m₀, 0, none⟩ = some (.func (.yield l1) #[] #[]) := cell_one (hH.box HYZ.out (by decide) (Nat.le_refl _))
            have fin : ∀ (v : Bool), e = .returned (.bool v) → Y.cell? ⟨Bn, 0, none⟩ = some (.pointer (some ⟨nd, 0, none⟩)) → Kept A0 Y → ∃ v : Bool, e = .returned (.bool v) ∧ Y.cell? ⟨m₀, 0, none⟩ = some (.func (.yield l1) #[] #[]) ∧ Y.cell? ⟨Bn, 0, none⟩ = some (.pointer (some ⟨nd, 0, none⟩)) ∧ Y.cell? ⟨nd, 0, none⟩ = some (.slice (some ⟨g2, off2, none⟩) n cap) ∧ Y.cell? ⟨g2, off2 + i * 2, none⟩ = some (.string x.1) ∧ Y.cell? ⟨g2, off2 + i * 2 + 1, none⟩ = some (.string x.2) := by
              intro v h1 h2 h3
              have h4 := HG1.out.fix h3
              obtain ⟨g', off', e', _, hc⟩ := h4.rd.2 (by have := HX.out; omega)
              cases e'
              exact ⟨v, h1, hyB, h2, h4.blk.cell (i := 0) rfl, (hc i x HX.out.1).1, (hc i x HX.out.1).2⟩
            rcases hD with ⟨h1, h2⟩ | ⟨h1, h2⟩
            · obtain ⟨r1, _, r3, _⟩ := hJ _ _ h2
              exact fin true h1 r1 r3
            · obtain ⟨r1, r3⟩ := hJx _ h2
              exact fin false h1 r1 r3
          · rintro v Y ⟨hH, hD⟩
            have HYB : Hid (Y.heap[m₀]? = some (.cells #[.func (.yield l1) #[] #[]] 42)) := hH.box HYZ.out (by decide) (Nat.le_refl _)
            have HMY : Hid (Marked (B.heap.size :: ms) Y) := HMZ.out.held hH HND.out.2
            clear hH cn ck c0 cy e0 e1
            cases v with
            | true =>
              have HJ3 : Hid (J (pl i + (ge key (tl d kid)).length + 1) Y) := by
                rcases hD with ⟨h1, h2⟩ | ⟨h1, h2⟩
                · exact h2
                · cases h1
              clear hD
              dsimp only
              gi_wp2
              rw [show (i : Int) + 1 = ((i + 1 : Nat) : Int) by omega]
              exact HIH.out _ _ ⟨i + 1, B.heap.size :: ms, ActOf.mk .., ⟨by have := HI.out.lo; omega, by have := HX.out; omega, by rw [HPN.out]; exact HJ3.out, HYB.out, HND.out.1, HMY.out, HND.out.2, (Array.getElem?_eq_some_iff.1 HYB.out).1⟩, by have := HM.out; omega⟩
            | false =>
              have HJ3 : Hid (Jx Y) := by
                rcases hD with ⟨h1, h2⟩ | ⟨h1, h2⟩
                · cases h1
                · exact h2
              clear hD
              dsimp only
              gi_wp2
              exact HOUT.out _ Y (.inr HJ3.out) HMY.out
        · have hie : i = n := by have := HK.out.2.2.2; omega
          have HPE : Hid (pl (i + 1) = pl i + (ge key (tl d kid)).length) := by
            show _ = _
            rw [hplB _ (by omega), hplA _ (by omega)]
            have e := offs_end (key := key) (l := tl d kid) hll (by rw [HN.out.2.2.2, ← hie]; exact kid_map HK.out.2.2.1)
            rw [HN.out.2.2.2, ← hie] at e
            exact e
          have HIE : Hid (i = n) := hie
          clear hie
          refine reg11n cn c0 (by omega) ?_
          dsimp only
          clear cn ck c0 cy
          gi_wp2
          rw [show (i : Int) + 1 = ((i + 1 : Nat) : Int) by omega]
          exact HIH.out _ _ ⟨i + 1, B.heap.size :: ms, ActOf.mk .., ⟨by have := HI.out.lo; omega, by have := HIE.out; omega, by rw [HPE.out]; exact hJb _ _ _ HJZ.out (BelowR.full (Below.refl _ Z).drew HZS.out), HYZ.out, HND.out.1, HMZ.out, HND.out.2, (Array.getElem?_eq_some_iff.1 HYZ.out).1⟩, by have := HM.out; omega⟩
      · intro Z hj hM
        gi_wp2
        exact HOUT.out _ Z (.inr hj) hM
  · have q1 : ¬ (i : Int) ≤ (n : Int) := by omega
    gi_wp2
    refine ret_marks (D := m₀) (I := fun A => J (ge key (tl (d + 1) t)).length A ∨ Jx A) (fun A B h hb => h.imp (fun j => hJb _ A B j hb) (fun j => hJxb A B j hb)) (fun A v h => ⟨⟨v, rfl⟩, h⟩) ms A (.inl ?_) HI.out.nd (fun m hm => ⟨HI.out.mlo m hm, HI.out.mr m hm⟩)
    have e := HI.out.j
    rw [hplB i hi] at e
    exact e
theorem from_leaf : FromC 0 := by
  intro dp l1 Bn Bk nd t key A0 hl0 hg m₀ J Jx hJb hJxb hJx hJ hY W hW h0
  obtain ⟨a, n, cap, h1, _⟩ := hl0
  have hr : Ris (t : List Pr) := hg.ris
  obtain ⟨k, ha⟩ := find_at (t : List Pr) key (ris_mono hr key)
  have e : ge key (tl 0 t) = (t : List Pr).drop k := ge_leaf ha
  rw [e] at hY ⊢
  have h7 : (t : List Pr).length ≤ 7 := hg.most
  have hn : n ≤ 1000000 := by rw [← h1.rd.1]; omega
  exact from1_in dp l1 Bn Bk nd n cap a t key k hn (ris_mono hr key) ha m₀ J Jx hJb (fun A hA => ⟨(hJx A hA).1, h1.fix (hJx A hA).2⟩) (fun s A hA => ⟨(hJ s A hA).1, (hJ s A hA).2.1, h1.fix (hJ s A hA).2.2.1, (hJ s A hA).2.2.2⟩) hY W hW h0
theorem from_all : ∀ d, FromC d
  | 0 => from_leaf
  | d + 1 => from_node d (from_all d)
end Go.Proofs.Ytnagknlfboadkaa.Oct.Wid

/- Layer 7 (tree): the closure of 'Scan', over a tree of any depth. -/
namespace Go.Proofs.Ytnagknlfboadkaa.Oct.Wid
open Go.RowKit Go.Shelf
attribute [local go_sem] Oper.semAt_some

theorem from_root (dp l1 Bn Bk : Nat) (p : Option Addr) (L : List Pr) (key : ByteArray) (A0 : World) (hroot : Root A0 p L) (m₀ : Nat) (J : Nat → World → Prop) (Jx : World → Prop)
    (hJb : ∀ s A B, J s A → BelowR m₀ A B → J s B) (hJxb : ∀ A B, Jx A → BelowR m₀ A B → Jx B)
    (hJx : ∀ A, Jx A → A.cell? ⟨Bn, 0, none⟩ = some (.pointer p) ∧ Kept A0 A)
    (hJ : ∀ s A, J s A → A.cell? ⟨Bn, 0, none⟩ = some (.pointer p) ∧ A.cell? ⟨Bk, 0, none⟩ = some (.string key) ∧ Kept A0 A ∧ m₀ ≤ A.heap.size)
    (hY : ∀ s x A, J s A → (ge key L)[s]? = some x → YieldAt Fence.wide 0 Try.prog l1 (encQ x) A fun e B => Held m₀ A B ∧ ((e = .returned (.bool true) ∧ J (s + 1) B) ∨ (e = .returned (.bool false) ∧ Jx B)))
    (W : World) (hW : W.heap.size = m₀) (h0 : J 0 W) :
    CallsIn Fence.wide dp Try.prog 37 #[.func (.yield l1) #[] #[], .pointer (some ⟨Bn, 0, none⟩), .pointer (some ⟨Bk, 0, none⟩)] W fun e B => (∃ v, e = .returned v) ∧ (J (ge key L).length B ∨ Jx B) := by
  rcases hroot with ⟨rfl, rfl⟩ | ⟨d, t, nd, rfl, h2, h3, _, rfl⟩
  · refine callsIn_of_wp Try.func37 rfl trivial ?_ rfl
    simp only [Try.ntmps37, List.size_toArray, List.length_cons, List.length_nil, Nat.reduceAdd, Nat.reduceSub, Array.replicate_succ, Array.replicate_zero, List.push_toArray, List.append_toArray, List.nil_append, List.cons_append]
    have hJ0 := hJb 0 W (W.alloc (.cells #[.func (.yield l1) #[] #[]] 42)) h0 (BelowR.full ((Below.refl _ W).alloc (Nat.le_refl _) _) (by omega))
    have HJ0 : Hid (J 0 (W.alloc (.cells #[.func (.yield l1) #[] #[]] 42))) := hJ0
    obtain ⟨cn, _, _, _⟩ := hJ 0 _ hJ0
    clear hJ0 h0
    gi_wp2
    refine bodyPost_ret (results_none rfl _ _ _) rfl ?_
    exact ⟨⟨_, rfl⟩, .inl HJ0.out⟩
  · exact from_all d dp l1 Bn Bk nd t key A0 h2 h3 m₀ J Jx hJb hJxb hJx hJ hY W hW h0
/-- between two rounds of the loop within 'Scan' -/
structure SInvT (J : Nat → World → Prop) (N m₀ l1 : Nat) (p : Option Addr) (key : ByteArray) (t : Nat) (A : World) : Prop where
  le : t ≤ N
  j : J t A
  y : A.heap[m₀]? = some (.cells #[.func (.yield l1) #[] #[]] 42)
  n : A.heap[m₀ + 1]? = some (.cells #[.pointer p] 46)
  k : A.heap[m₀ + 2]? = some (.cells #[.string key] 9)
structure SOutT (J : Nat → World → Prop) (Jx : World → Prop) (N m₀ : Nat) (p : Option Addr) (c : Code) (A : World) : Prop where
  ret : c = .ret
  j : J N A ∨ Jx A
  n : A.heap[m₀ + 1]? = some (.cells #[.pointer p] 46)

set_option maxRecDepth 100000 in
set_option maxHeartbeats 2000000 in
theorem scan2_all (d l1 Br Bf Bu : Nat) (p : Option Addr) (L : List Pr) (key til : ByteArray) (A0 : World) (hroot : Root A0 p L) (m₀ : Nat) (J : Nat → World → Prop) (Jx : World → Prop)
    (hJb : ∀ t A B, J t A → BelowR m₀ A B → J t B) (hJxb : ∀ A B, Jx A → BelowR m₀ A B → Jx B) (hJx : ∀ A, Jx A → Kept A0 A)
    (hJ : ∀ t A, J t A → A.cell? ⟨Br, 0, none⟩ = some (.pointer p) ∧ A.cell? ⟨Bf, 0, none⟩ = some (.string key) ∧ A.cell? ⟨Bu, 0, none⟩ = some (.string til) ∧ Kept A0 A ∧ m₀ ≤ A.heap.size)
    (hY : ∀ t x A, J t A → (scanT key til L)[t]? = some x → YieldAt Fence.wide 0 Try.prog l1 (encQ x) A fun e B => Held m₀ A B ∧ ((e = .returned (.bool true) ∧ J (t + 1) B) ∨ (e = .returned (.bool false) ∧ Jx B)))
    (W : World) (hW : W.heap.size = m₀) (h0 : J 0 W) :
    CallsIn Fence.wide d Try.prog 28 #[.func (.yield l1) #[] #[], .pointer (some ⟨Br, 0, none⟩), .pointer (some ⟨Bf, 0, none⟩), .pointer (some ⟨Bu, 0, none⟩)] W fun e B => (∃ v, e = .returned v) ∧ (J (scanT key til L).length B ∨ Jx B) := by
  refine callsIn_of_wp_marks Try.func28 rfl trivial ?_ rfl
  simp only [Try.ntmps28, List.size_toArray, List.length_cons, List.length_nil, Nat.reduceAdd, Nat.reduceSub, Array.replicate_succ, Array.replicate_zero, List.push_toArray, List.append_toArray, List.nil_append, List.cons_append]
  have hJ0 := hJb 0 W (W.alloc (.cells #[.func (.yield l1) #[] #[]] 42)) h0 (BelowR.full ((Below.refl _ W).alloc (Nat.le_refl _) _) (by omega))
  obtain ⟨cr, cf, cu, _, _⟩ := hJ 0 _ hJ0
  gi_wp2_with (refine ⟨trivial, (fun h => by cases h), ?_⟩; gi_at_call 29; refine (callsIn_wide.2 (from_is _ _ key)).mono ?_; rintro e w1 ⟨rfl, HW1⟩)
  have hw1 := HW1.out
  have HB : Hid (Below m₀ W w1) := by rw [hw1]; exact (((Below.refl _ W).alloc (by omega) _).alloc (by simp; omega) _).alloc (by simp; omega) _
  have HSZ : Hid (w1.heap.size = m₀ + 3) := by show _ = _; rw [hw1]; simp [hW]
  have hy1 : w1.heap[m₀]? = some (.cells #[.func (.yield l1) #[] #[]] 42) := by
    rw [hw1, Below.heap_alloc _ _ _ (by simp; omega), Below.heap_alloc _ _ _ (by simp; omega), ← hW]
    exact World.alloc_heap_new W _
  have hn1 : w1.heap[m₀ + 1]? = some (.cells #[.pointer p] 46) := by
    have e := World.alloc_heap_new (W.alloc (.cells #[.func (.yield l1) #[] #[]] 42)) (.cells #[.pointer p] 46)
    rw [World.size_alloc, hW] at e
    rw [hw1, Below.heap_alloc _ _ _ (by simp; omega)]
    exact e
  have hk1 : w1.heap[m₀ + 2]? = some (.cells #[.string key] 9) := by
    have e := World.alloc_heap_new ((W.alloc (.cells #[.func (.yield l1) #[] #[]] 42)).alloc (.cells #[.pointer p] 46)) (.cells #[.string key] 9)
    rw [World.size_alloc, World.size_alloc, hW] at e
    rw [hw1]
    exact e
  clear hw1 HW1 hJ0 cr cf cu
  refine rangeLeave (gf := 37) (lb := #[.pointer (some ⟨m₀ + 1, 0, none⟩), .pointer (some ⟨m₀ + 1 + 1, 0, none⟩)]) rfl (enters_of Try.func37 (by kernel_rfl) rfl) (fun _ x => encQ x) (fun _ _ => rfl) (ge key L)
    (SInvT J (scanT key til L).length m₀ l1 p key) (SOutT J Jx (scanT key til L).length m₀ p) ?hI ?hIx ⟨Nat.zero_le _, hJb 0 W w1 h0 (BelowR.full (by rw [hW]; exact HB.out) (by omega)), hy1, hn1, hk1⟩
    (fun _ x => { tmps := #[.func (.yield l1) #[] #[], .pointer (some ⟨Br, 0, none⟩), .pointer (some ⟨Bf, 0, none⟩), .pointer (some ⟨Bu, 0, none⟩), .pointer (some ⟨m₀, 0, none⟩), .string x.1, .string x.2, .pointer p, .string key, .func (.func 37) #[] #[.pointer (some ⟨m₀ + 1, 0, none⟩), .pointer (some ⟨m₀ + 1 + 1, 0, none⟩)], .string x.1, .string x.2, undef, undef, undef, undef, undef, undef, undef, undef, undef, undef, undef, undef, undef, undef], defers := [] }) ?assign ?body ?iter ?done ?stop
  case hI =>
    rintro t A B h hb
    rw [HSZ.out] at hb
    exact ⟨h.le, hJb t A B h.j (hb.mono (by omega)), (hb.below.block _ (by omega)).trans h.y, (hb.below.block _ (by omega)).trans h.n, (hb.below.block _ (by omega)).trans h.k⟩
  case hIx =>
    rintro c A B h hb
    rw [HSZ.out] at hb
    exact ⟨h.ret, h.j.imp (fun j => hJb _ A B j (hb.mono (by omega))) (fun j => hJxb A B j (hb.mono (by omega))), (hb.below.block _ (by omega)).trans h.n⟩
  case assign =>
    intro t x A K hK
    dsimp only [encQ]
    gi_wp2
    exact hK
  case body =>
    rintro t x A h hx hlt
    have HT := takeWhile_at (p := okS til) h.le hx
    have HTT : Hid ((okS til x = true → (scanT key til L)[t]? = some x) ∧ (okS til x = false → t = (scanT key til L).length)) := HT
    have HI : Hid (SInvT J (scanT key til L).length m₀ l1 p key t A) := h
    obtain ⟨_, _, cu, _, _⟩ := hJ _ _ h.j
    have cy := cell_one h.y
    clear HT hx hlt h
    have goes : okS til x = true → YieldAt Fence.wide (d - 1 - 1 - 1) Try.prog l1 #[.string x.1, .string x.2] A fun e B => Held m₀ A B ∧ ((e = .returned (.bool true) ∧ J (t + 1) B) ∨ (e = .returned (.bool false) ∧ Jx B)) := fun e => YieldAt.deep _ (hY t x A HI.out.j (HTT.out.1 e))
    have GO : Hid (okS til x = true → YieldAt Fence.wide (d - 1 - 1 - 1) Try.prog l1 #[.string x.1, .string x.2] A fun e B => Held m₀ A B ∧ ((e = .returned (.bool true) ∧ J (t + 1) B) ∨ (e = .returned (.bool false) ∧ Jx B))) := goes
    have HX : Hid (∀ B, Held m₀ A B → B.heap[m₀]? = some (.cells #[.func (.yield l1) #[] #[]] 42) ∧ B.heap[m₀ + 1]? = some (.cells #[.pointer p] 46) ∧ B.heap[m₀ + 2]? = some (.cells #[.string key] 9) ∧ Held w1.heap.size A B) := fun B hB =>
      ⟨hB.box HI.out.y (by decide) (Nat.le_refl _), hB.box HI.out.n (by decide) (by omega), hB.box HI.out.k (by decide) (by omega), hB.mono (by have := HSZ.out; omega)⟩
    clear goes
    cases he : til.toList.isEmpty with
    | true =>
      have f1 : (til.toList == ([] : List UInt8)) = true := by simpa using he
      have hok : okS til x = true := by simp [okS, he]
      have HLT : Hid (t + 1 ≤ (scanT key til L).length) := (List.getElem?_eq_some_iff.1 (HTT.out.1 hok)).1
      obtain ⟨fn, tmps, asg, bdy, hy, hR⟩ := GO.out hok
      clear hok
      gi_wp2
      refine ⟨(fun h => by cases h), hR.mono ?_⟩
      rintro e B ⟨hH, ⟨rfl, hJ3⟩ | ⟨rfl, hJ3⟩⟩
      · have HJ3 : Hid (J (t + 1) B ∧ Held m₀ A B) := ⟨hJ3, hH⟩
        clear hy hR hJ3 hH cu cy
        gi_wp2
        have hx := HX.out B HJ3.out.2
        exact ⟨⟨HLT.out, HJ3.out.1, hx.1, hx.2.1, hx.2.2.1⟩, hx.2.2.2⟩
      · have HJ3 : Hid (Jx B ∧ Held m₀ A B) := ⟨hJ3, hH⟩
        clear hy hR hJ3 hH cu cy
        gi_wp2
        have hx := HX.out B HJ3.out.2
        exact ⟨⟨rfl, .inr HJ3.out.1, hx.2.1⟩, hx.2.2.2⟩
    | false =>
      have f1 : (til.toList == ([] : List UInt8)) = false := by simpa using he
      cases hg : Op.bytesLess x.1.toList til.toList with
      | true =>
        have hok : okS til x = true := by simp [okS, geS, hg]
        have HLT : Hid (t + 1 ≤ (scanT key til L).length) := (List.getElem?_eq_some_iff.1 (HTT.out.1 hok)).1
        obtain ⟨fn, tmps, asg, bdy, hy, hR⟩ := GO.out hok
        clear hok
        gi_wp2
        refine ⟨(fun h => by cases h), hR.mono ?_⟩
        rintro e B ⟨hH, ⟨rfl, hJ3⟩ | ⟨rfl, hJ3⟩⟩
        · have HJ3 : Hid (J (t + 1) B ∧ Held m₀ A B) := ⟨hJ3, hH⟩
          clear hy hR hJ3 hH cu cy
          gi_wp2
          have hx := HX.out B HJ3.out.2
          exact ⟨⟨HLT.out, HJ3.out.1, hx.1, hx.2.1, hx.2.2.1⟩, hx.2.2.2⟩
        · have HJ3 : Hid (Jx B ∧ Held m₀ A B) := ⟨hJ3, hH⟩
          clear hy hR hJ3 hH cu cy
          gi_wp2
          have hx := HX.out B HJ3.out.2
          exact ⟨⟨rfl, .inr HJ3.out.1, hx.2.1⟩, hx.2.2.2⟩
      | false =>
        have hok : okS til x = false := by simp [okS, geS, hg, he]
        have HE : Hid (t = (scanT key til L).length) := HTT.out.2 hok
        clear hok
        gi_wp2
        refine ⟨(fun f h => by cases h), ?_⟩
        gi_wp2
        refine ⟨⟨rfl, .inl ?_, HI.out.n⟩, Nat.le_refl _, fun _ _ _ _ => rfl⟩
        rw [← HE.out]; exact HI.out.j
  case iter =>
    intro J' Jx' A hS hB hJ'b hJx'b hJ'I hJ'X hY' h0'
    refine from_root _ _ _ _ p L key A0 hroot (w1.heap.size + 2) J' Jx' hJ'b hJx'b ?_ ?_ (fun t x A hj hx => YieldAt.deep 0 (hY' t x A hj hx)) A hS h0'
    · intro A hA
      obtain ⟨⟨c, hc⟩, _⟩ := hJ'X A hA
      refine ⟨cell_one hc.n, ?_⟩
      rcases hc.j with j | j
      · exact (hJ _ _ j).2.2.2.1
      · exact hJx _ j
    · intro t A hA
      obtain ⟨hI, hsz⟩ := hJ'I t A hA
      exact ⟨cell_one hI.n, cell_one hI.k, (hJ _ _ hI.j).2.2.2.1, hsz⟩
  case done =>
    rintro A h hK
    gi_wp2
    refine ⟨by simp, .inl ⟨_, _, rfl, run_takeDeferred hK, ?_⟩⟩
    refine ⟨_, results_none rfl _ _ _, ⟨_, rfl⟩, .inl ?_⟩
    have e : (ge key L).length = (scanT key til L).length := Nat.le_antisymm h.le (takeWhile_le _ _)
    rw [← e]
    exact hJb _ _ _ h.j (belowR_putObj _ (by have := HSZ.out; omega) hK def_row)
  case stop =>
    rintro c A h hK
    obtain rfl := h.ret
    gi_wp2
    refine ⟨by simp, .inl ⟨_, _, rfl, run_takeDeferred hK, ?_⟩⟩
    refine ⟨_, results_none rfl _ _ _, ⟨_, rfl⟩, ?_⟩
    have hb := belowR_putObj (D := m₀) (.deferred none) (by have := HSZ.out; omega) hK def_row
    exact h.j.imp (fun j => hJb _ _ _ j hb) (fun j => hJxb _ _ j hb)
end Go.Proofs.Ytnagknlfboadkaa.Oct.Wid

/- Layer 7 (tree): Scan, and what the statements' 'told' makes of it, over a leaf. -/
namespace Go.Proofs.Ytnagknlfboadkaa.Oct
open Go.RowKit Go.Shelf
attribute [local go_sem] Oper.semAt_some

theorem scan_yes (w : World) (m c : Nat) (r : Option Addr) (key til : ByteArray) (h : Mp w m (.pointer r) c) : Calls Try.prog 17 #[.pointer (some ⟨m, 0, none⟩), .string key, .string til] w fun e w' =>
    e = .returned (.func (.func 28) #[] #[.pointer (some ⟨w.heap.size + 2, 0, none⟩), .pointer (some ⟨w.heap.size, 0, none⟩), .pointer (some ⟨w.heap.size + 1, 0, none⟩)]) ∧ Hid (w' = ((w.alloc (.cells #[.string key] 9)).alloc (.cells #[.string til] 9)).alloc (.cells #[.pointer r] 46)) := by
  have hl := h.lt
  have HB : Hid (Below w.heap.size w ((w.alloc (.cells #[.string key] 9)).alloc (.cells #[.string til] 9))) := ((Below.refl _ w).alloc (Nat.le_refl _) _).alloc (by simp) _
  have h2 : Mp ((w.alloc (.cells #[.string key] 9)).alloc (.cells #[.string til] 9)) m (.pointer r) c := h.keep HB.out (Nat.le_refl _)
  have c0 := h2.cell (i := 0) rfl
  have c2 := h2.cell (i := 2) rfl
  clear h h2
  go_enter Try.func17, Try.ntmps17
  go_wp2_with (go_at_call 22; refine (made_is _ m true c2).mono ?_; rintro e w2 ⟨rfl, rfl⟩)
  go_ret
  exact ⟨rfl, rfl⟩
theorem nothing_in (d : Nat) (v : Value) (W : World) : CallsIn Fence.wide d Try.prog 27 #[v] W fun e B => (∃ v, e = .returned v) ∧ B = W := by
  refine callsIn_of_wp Try.func27 rfl trivial ?_ rfl
  simp only [Try.ntmps27, List.size_toArray, List.length_cons, List.length_nil, Nat.reduceAdd, Nat.reduceSub, Array.replicate_succ, Array.replicate_zero, List.push_toArray, List.append_toArray, List.nil_append, List.cons_append]
  gi_wp2
  go_end0
  exact ⟨⟨_, rfl⟩, rfl⟩
theorem scan_nil (w : World) (key til : ByteArray) : Calls Try.prog 17 #[.pointer none, .string key, .string til] w fun e w' => e = .returned (.func (.func 27) #[] #[]) ∧ Below w.heap.size w w' := by
  go_enter Try.func17, Try.ntmps17
  go_wp2_with (go_at_call 22; refine (made_nil _).mono ?_; rintro e w2 ⟨rfl, rfl⟩)
  go_ret
  exact ⟨rfl, ((Below.refl _ w).alloc (Nat.le_refl _) _).alloc (by simp) _⟩
theorem scan_no (w : World) (m : Nat) (key til : ByteArray) (h : w.cell? ⟨m, 2, none⟩ = some (.bool false)) : Calls Try.prog 17 #[.pointer (some ⟨m, 0, none⟩), .string key, .string til] w fun e w' => e = .returned (.func (.func 27) #[] #[]) ∧ Below w.heap.size w w' := by
  have hl := World.block_lt_of_cell? w _ h
  have HB : Hid (Below w.heap.size w ((w.alloc (.cells #[.string key] 9)).alloc (.cells #[.string til] 9))) := ((Below.refl _ w).alloc (Nat.le_refl _) _).alloc (by simp) _
  have c2 : ((w.alloc (.cells #[.string key] 9)).alloc (.cells #[.string til] 9)).cell? ⟨m, 2, none⟩ = some (.bool false) := (HB.out.cell (p := ⟨m, 2, none⟩) hl).trans h
  go_enter Try.func17, Try.ntmps17
  go_wp2_with (go_at_call 22; refine (made_is _ m false c2).mono ?_; rintro e w2 ⟨rfl, rfl⟩)
  go_ret
  exact ⟨rfl, HB.out⟩
theorem not_nil28 (l : Array Value) (W : World) : (binOp BinOp.eql 37 (Value.func (Fn.func 28) #[] l) Value.nilFunc).run Try.prog W = .ok (.bool false) W := by
  first | rfl | kernel_rfl | simp [binOp, go_sem]
theorem not_nil27 (W : World) : (binOp BinOp.eql 37 (Value.func (Fn.func 27) #[] #[]) Value.nilFunc).run Try.prog W = .ok (.bool false) W := by
  first | rfl | kernel_rfl | simp [binOp, go_sem]

/-- between two rounds of 'told' -/
structure TInv (w : World) (nd : Nat) (key til : ByteArray) (ys : List Pr) (s : Nat) (A : World) : Prop where
  be : Below w.heap.size w A
  out : ∃ v, A.heap[w.heap.size]? = some (.cells #[v] 27) ∧ A.ownsRow (w.heap.size + 4) 40 2 v s ((ys.take s).flatMap pc)
  fr : A.heap[w.heap.size + 1]? = some (.cells #[.string key] 9)
  un : A.heap[w.heap.size + 2]? = some (.cells #[.string til] 9)
  ro : A.heap[w.heap.size + 3]? = some (.cells #[.pointer (some ⟨nd, 0, none⟩)] 46)
  le : w.heap.size + 4 ≤ A.heap.size
theorem own_below {w w' : World} {B C : Nat} {v : Value} {n : Nat} {xs : List Value} (h : w.ownsRow B 40 2 v n xs) (hb : Below C w w') (hC : w.heap.size ≤ C) : w'.ownsRow B 40 2 v n xs := by
  refine ⟨h.1, ?_⟩
  rcases h.2 with h2 | ⟨g, cap, cur, e, h3, h4, h5⟩
  · exact .inl h2
  · exact .inr ⟨g, cap, cur, e, h3, (hb.block g (Nat.lt_of_lt_of_le (lt_of_block h4) hC)).trans h4, h5⟩
theorem own_set {w : World} {B b : Nat} {v u : Value} {n : Nat} {xs : List Value} (h : w.ownsRow B 40 2 v n xs) (hb : b < B) : (w.setCell ⟨b, 0, none⟩ u).ownsRow B 40 2 v n xs := by
  refine ⟨h.1, ?_⟩
  rcases h.2 with h2 | ⟨g, cap, cur, e, h3, h4, h5⟩
  · exact .inl h2
  · exact .inr ⟨g, cap, cur, e, h3, by rw [heap_setCell_other w ⟨b, 0, none⟩ g u (by simp; omega)]; exact h4, h5⟩

theorem own_rows {w w' : World} {B C : Nat} {v : Value} {n : Nat} {xs : List Value} (h : w.ownsRow B 40 2 v n xs) (hb : BelowR C w w') : w'.ownsRow B 40 2 v n xs := by
  refine ⟨h.1, ?_⟩
  rcases h.2 with h2 | ⟨g, cap, cur, e, h3, h4, h5⟩
  · exact .inl h2
  · exact .inr ⟨g, cap, cur, e, h3, (hb.rows g (lt_of_block h4) ⟨cur, _, h4⟩).trans h4, h5⟩
theorem own_mono {w : World} {B B' : Nat} {v : Value} {n : Nat} {xs : List Value} (h : w.ownsRow B 40 2 v n xs) (hb : B' ≤ B) : w.ownsRow B' 40 2 v n xs := by
  refine ⟨h.1, ?_⟩
  rcases h.2 with h2 | ⟨g, cap, cur, e, h3, h4⟩
  · exact .inl h2
  · exact .inr ⟨g, cap, cur, e, Nat.le_trans hb h3, h4⟩
theorem own_shape {w : World} {B : Nat} {v : Value} {n : Nat} {xs : List Value} (h : w.ownsRow B 40 2 v (n + 1) xs) : ∃ g cap, v = .slice (some ⟨g, 0, none⟩) (n + 1) cap := by
  rcases h.2 with ⟨_, e⟩ | ⟨g, cap, cur, e, _⟩
  · omega
  · exact ⟨g, cap, e⟩
theorem told_box {A w' : World} {b n : Nat} {v : Value} {o : Obj} {B : Nat} {xs : List Value} (hv : A.heap[b]? = some (.cells #[v] 27)) (ho : A.ownsRow B 40 2 v n xs) (hg : (A.alloc o).grownBy w' v.ownBlock) (hb : b < B) : w'.heap[b]? = some (.cells #[v] 27) := by
  have hlt := lt_of_block hv
  refine (hg.block b (by simp; omega) fun e => ?_).trans ((Below.heap_alloc A o b hlt).trans hv)
  have := (ho.lt b e.symm).1
  omega
theorem TInv.step {w A w' : World} {nd s : Nat} {key til : ByteArray} {ys : List Pr} {x : Pr} {v v' : Value} (h : TInv w nd key til ys s A) (hv : A.heap[w.heap.size]? = some (.cells #[v] 27)) (ho : A.ownsRow (w.heap.size + 4) 40 2 v s ((ys.take s).flatMap pc)) (hx : ys[s]? = some x)
    (hg : (A.alloc (.cells #[.string x.1, .string x.2] 40)).grownBy w' v.ownBlock) (ho' : w'.ownsRow (w.heap.size + 4) 40 2 v' (s + 1) ((ys.take s).flatMap pc ++ pc x)) :
    TInv w nd key til ys (s + 1) (w'.setCell ⟨w.heap.size, 0, none⟩ v') ∧ Held (w.heap.size + 4) A (w'.setCell ⟨w.heap.size, 0, none⟩ v') := by
  have hrow : ∀ b, v.ownBlock = some b → w.heap.size + 4 ≤ b ∧ RowAt A b := by
    intro b hb
    rcases ho.2 with ⟨rfl, _⟩ | ⟨g, cap, cur, rfl, h3, h4, _⟩
    · cases hb
    · have : g = b := by simpa [Value.ownBlock] using hb
      subst this
      exact ⟨h3, cur, (0, 0), h4⟩
  have old : ∀ b, b < A.heap.size → some b ≠ v.ownBlock → w'.heap[b]? = A.heap[b]? := fun b hb hne =>
    (hg.block b (by simp; omega) hne).trans (Below.heap_alloc A _ b hb)
  have low : ∀ b, b < w.heap.size + 4 → w'.heap[b]? = A.heap[b]? := fun b hb => old b (by have := h.le; omega) (fun e => by have := (hrow b e.symm).1; omega)
  have low' : ∀ b, b < w.heap.size + 4 → b ≠ w.heap.size → (w'.setCell ⟨w.heap.size, 0, none⟩ v').heap[b]? = A.heap[b]? := fun b hb hne => by
    rw [heap_setCell_other w' ⟨w.heap.size, 0, none⟩ b v' hne]; exact low b hb
  have hsz : A.heap.size ≤ w'.heap.size := Nat.le_trans (by simp) hg.size
  have hlt := (List.getElem?_eq_some_iff.1 hx).1
  refine ⟨⟨?_, ⟨v', ?_, ?_⟩, ?_, ?_, ?_, ?_⟩, ?_, ?_⟩
  · refine ⟨hg.os.trans h.be.os, hg.tape.trans h.be.tape, hg.output.trans h.be.output, by simp; have := h.be.size; omega, fun b hb => ?_⟩
    rw [low' b (by omega) (by omega)]; exact h.be.block b hb
  · have e := low w.heap.size (by omega)
    rw [hv] at e
    have := heap_setCell_same w' w.heap.size 0 _ 27 v' e
    simpa using this
  · have e : ys.take (s + 1) = ys.take s ++ [x] := by rw [List.take_add_one, hx]; rfl
    rw [e, List.flatMap_append]
    exact own_set (by simpa using ho') (by omega)
  · rw [low' _ (by omega) (by omega)]; exact h.fr
  · rw [low' _ (by omega) (by omega)]; exact h.un
  · rw [low' _ (by omega) (by omega)]; exact h.ro
  · simp; have := h.le; omega
  · simp; exact hsz
  · intro b h1 h2 h3
    rw [heap_setCell_other w' ⟨w.heap.size, 0, none⟩ b v' (by show b ≠ w.heap.size; omega)]
    exact old b h1 (fun e => h3 (hrow b e.symm).2)

set_option maxRecDepth 100000 in
set_option maxHeartbeats 2000000 in
theorem told_yes (w : World) (m nd n cap c : Nat) (a : Option Addr) (ps : List Pr) (key til : ByteArray) (k : Nat) (hmp : Mp w m (.pointer (some ⟨nd, 0, none⟩)) c) (hnd : Nd w nd a n cap ps (.slice none 0 0)) (hn : n ≤ 1000000) (hm : Mono ps key) (ha : AtP ps key k) :
    Calls Try.prog 13 #[.pointer (some ⟨m, 0, none⟩), .string key, .string til] w fun e w' => ∃ v, e = .returned v ∧ Hid (w'.ownsRow w.heap.size 40 2 v (scanP ps k til).length ((scanP ps k til).flatMap pc)) ∧ Hid (Below w.heap.size w w') := by
  have HN : Hid (Nd w nd a n cap ps (.slice none 0 0) ∧ n ≤ 1000000 ∧ Mono ps key ∧ AtP ps key k) := ⟨hnd, hn, hm, ha⟩
  have HM : Hid (Mp w m (.pointer (some ⟨nd, 0, none⟩)) c) := hmp
  clear hmp hnd hn hm ha
  obtain ⟨ys, hys⟩ : ∃ ys, scanP ps k til = ys := ⟨_, rfl⟩
  rw [hys]
  have HYS : Hid (scanP ps k til = ys) := hys
  have HLY : Hid (ys.length ≤ 1000000) := by
    show _ ≤ _
    have h1 := takeWhile_le (okS til) (ps.drop k)
    have h2 := HN.out.1.rd.1
    have h3 := HN.out.2.1
    rw [← hys, scanP]
    rw [List.length_drop] at h1
    omega
  clear hys
  refine (callsIn_wide (n := 3)).1 ?_
  refine callsIn_of_wp_marks Try.func13 rfl trivial ?_ rfl
  simp only [Try.ntmps13, List.size_toArray, List.length_cons, List.length_nil, Nat.reduceAdd, Nat.reduceSub, Array.replicate_succ, Array.replicate_zero, List.push_toArray, List.append_toArray, List.nil_append, List.cons_append]
  have HB0 : Hid (Below w.heap.size w (w.alloc (.cells #[.slice none 0 0] 27))) := (Below.refl _ w).alloc (Nat.le_refl _) _
  have nn := not_nil28
  gi_wp2_with (refine ⟨trivial, ?_⟩; gi_at_call 17; refine (callsIn_wide.2 (scan_yes _ m c _ key til (HM.out.keep HB0.out (Nat.le_refl _)))).mono ?_; rintro e w1 ⟨rfl, HW1⟩)
  have hw1 := HW1.out
  have HS1 : Hid (w1.heap.size = w.heap.size + 4) := by show _ = _; rw [hw1]; simp
  have HI0 : Hid (TInv w nd key til ys 0 w1) := by
    have b0 : w1.heap[w.heap.size]? = some (.cells #[.slice none 0 0] 27) := by
      rw [hw1, Below.heap_alloc _ _ _ (by simp; omega), Below.heap_alloc _ _ _ (by simp; omega), Below.heap_alloc _ _ _ (by simp)]
      exact World.alloc_heap_new w _
    have b1 : w1.heap[w.heap.size + 1]? = some (.cells #[.string key] 9) := by
      have e := World.alloc_heap_new (w.alloc (.cells #[.slice none 0 0] 27)) (.cells #[.string key] 9)
      rw [World.size_alloc] at e
      rw [hw1, Below.heap_alloc _ _ _ (by simp), Below.heap_alloc _ _ _ (by simp)]
      exact e
    have b2 : w1.heap[w.heap.size + 2]? = some (.cells #[.string til] 9) := by
      have e := World.alloc_heap_new ((w.alloc (.cells #[.slice none 0 0] 27)).alloc (.cells #[.string key] 9)) (.cells #[.string til] 9)
      rw [World.size_alloc, World.size_alloc] at e
      rw [hw1, Below.heap_alloc _ _ _ (by simp)]
      exact e
    have b3 : w1.heap[w.heap.size + 3]? = some (.cells #[.pointer (some ⟨nd, 0, none⟩)] 46) := by
      have e := World.alloc_heap_new (((w.alloc (.cells #[.slice none 0 0] 27)).alloc (.cells #[.string key] 9)).alloc (.cells #[.string til] 9)) (.cells #[.pointer (some ⟨nd, 0, none⟩)] 46)
      rw [World.size_alloc, World.size_alloc, World.size_alloc] at e
      rw [hw1]
      exact e
    refine ⟨?_, ⟨_, b0, World.ownsRow_nil _ _ _ _⟩, b1, b2, b3, Nat.le_of_eq HS1.out.symm⟩
    rw [hw1]
    exact (((HB0.out.alloc (by simp) _).alloc (by simp; omega) _).alloc (by simp; omega) _)
  clear hw1 HW1 HB0 nn
  obtain ⟨i0, hi0, hii⟩ := Option.map_eq_some_iff.1 info40
  simp only [Prod.mk.injEq] at hii
  refine rangeLeave (gf := 28) (lb := #[.pointer (some ⟨w.heap.size + 1 + 2, 0, none⟩), .pointer (some ⟨w.heap.size + 1, 0, none⟩), .pointer (some ⟨w.heap.size + 1 + 1, 0, none⟩)]) rfl (enters_of Try.func28 (by kernel_rfl) rfl) (fun _ x => encQ x) (fun _ _ => rfl) ys
    (TInv w nd key til ys) (fun _ _ => False) ?hI (fun _ _ _ h _ => h) HI0.out
    (fun _ x => { tmps := #[.pointer (some ⟨m, 0, none⟩), .string key, .string til, undef, undef, undef, .slice none 0 0, .pointer (some ⟨w.heap.size, 0, none⟩), .func (.func 28) #[] #[.pointer (some ⟨w.heap.size + 1 + 2, 0, none⟩), .pointer (some ⟨w.heap.size + 1, 0, none⟩), .pointer (some ⟨w.heap.size + 1 + 1, 0, none⟩)], .string x.1, .string x.2, .pointer (some ⟨m, 0, none⟩), .string key, .string til, .func (.func 28) #[] #[.pointer (some ⟨w.heap.size + 1 + 2, 0, none⟩), .pointer (some ⟨w.heap.size + 1, 0, none⟩), .pointer (some ⟨w.heap.size + 1 + 1, 0, none⟩)], .func (.func 28) #[] #[.pointer (some ⟨w.heap.size + 1 + 2, 0, none⟩), .pointer (some ⟨w.heap.size + 1, 0, none⟩), .pointer (some ⟨w.heap.size + 1 + 1, 0, none⟩)], .bool false, .func (.func 28) #[] #[.pointer (some ⟨w.heap.size + 1 + 2, 0, none⟩), .pointer (some ⟨w.heap.size + 1, 0, none⟩), .pointer (some ⟨w.heap.size + 1 + 1, 0, none⟩)], .string x.1, .string x.2, undef, undef, undef, undef, undef, undef, undef], defers := [] }) ?assign ?body ?iter ?done ?stop
  case hI =>
    rintro t A B h hb
    rw [HS1.out] at hb
    obtain ⟨v, h1, h2⟩ := h.out
    exact ⟨h.be.trans (hb.below.mono (by omega)), ⟨v, (hb.below.block _ (by omega)).trans h1, own_rows h2 hb⟩, (hb.below.block _ (by omega)).trans h.fr, (hb.below.block _ (by omega)).trans h.un, (hb.below.block _ (by omega)).trans h.ro, Nat.le_trans h.le hb.below.size⟩
  case assign =>
    intro t x A K hK
    dsimp only [encQ]
    gi_wp2
    exact hK
  case body =>
    rintro t x A h hx hlt
    obtain ⟨v, h1, h2⟩ := h.out
    have HI : Hid (TInv w nd key til ys t A) := h
    have HX : Hid (ys[t]? = some x) := hx
    have HV : Hid (A.heap[w.heap.size]? = some (.cells #[v] 27)) := h1
    have HO : Hid (A.ownsRow (w.heap.size + 4) 40 2 v t ((ys.take t).flatMap pc)) := h2
    have cv := cell_one h1
    have HL : Hid (t < ys.length) := (List.getElem?_eq_some_iff.1 hx).1
    have hlw : w.heap.size < A.heap.size := by have := h.le; omega
    have HC : Hid (∀ j u, (pc x)[j]? = some u → (A.alloc (.cells #[.string x.1, .string x.2] 40)).cell? ((⟨A.heap.size, 0, none⟩ : Addr).add j) = some u) := by
      intro j u hu
      rw [Addr.add_lit, Nat.zero_add]
      exact (Blk.new A #[.string x.1, .string x.2] 40).cell hu
    have HOA : Hid ((A.alloc (.cells #[.string x.1, .string x.2] 40)).ownsRow (w.heap.size + 4) 40 2 v t ((ys.take t).flatMap pc)) := own_below h2 ((Below.refl A.heap.size A).alloc (Nat.le_refl _) _) (Nat.le_refl _)
    clear h hx h1 h2 hlt
    gi_wp2_with (
      with_reducible change wpListIn _ _ _ _ _ ({ dst := some 25, op := _, type := _, pos := _, after := _, guard := _ } :: _) _ _
      refine wpListIn_append_own (A.alloc (.cells #[.string x.1, .string x.2] 40)) rfl (.tmp 20) (.tmp 24) 27 rfl (w.heap.size + 4) 40 i0 _ 2 32 Try.underlying27 hi0 hii.1 hii.2.1 hii.2.2 rfl (by omega) v t _ rfl HOA.out ⟨A.heap.size, 0, none⟩ 1 1 (pc x) rfl rfl HC.out (by intro u hu; simp only [pc, List.mem_cons, List.not_mem_nil, or_false] at hu; rcases hu with rfl | rfl <;> rfl) (by have := HL.out; have := HLY.out; unfold maxLen; omega) (by have := HL.out; have := HLY.out; omega) (by have := HI.out.le; simp; omega) ?_
      intro v' w' ho' hg' hn'
      obtain ⟨g', cap', rfl⟩ := own_shape ho'
      have HO' : Hid (w'.ownsRow (w.heap.size + 4) 40 2 (.slice (some ⟨g', 0, none⟩) (t + 1) cap') (t + 1) ((ys.take t).flatMap pc ++ pc x)) := ho'
      have HG' : Hid ((A.alloc (.cells #[.string x.1, .string x.2] 40)).grownBy w' v.ownBlock) := hg'
      have hv' := told_box HV.out HO.out hg' (by omega)
      have cw := cell_one hv'
      have fw : w'.frozen? ⟨w.heap.size, 0, none⟩ = false := frozen_of_row w' w.heap.size 0 _ 27 hv'
      clear ho' hg' hn' hv')
    have hE := TInv.step HI.out HV.out HO.out HX.out HG'.out HO'.out
    exact ⟨hE.1, by rw [HS1.out]; exact hE.2⟩
  case iter =>
    intro J' Jx' A hS hB hJ'b hJx'b hJ'I hJ'X hY' h0'
    have := scan2_in 2 (w1.heap.size + 1) (w.heap.size + 1 + 2) (w.heap.size + 1) (w.heap.size + 1 + 1) nd n cap a ps key til k HN.out.2.1 HN.out.2.2.1 HN.out.2.2.2 (w1.heap.size + 2) J' Jx' hJ'b hJx'b ?_ ?_ ?_ A hS h0'
    · rw [HYS.out] at this; exact this
    · intro A hA
      obtain ⟨⟨c, hc⟩, _⟩ := hJ'X A hA
      exact hc.elim
    · intro t A hA
      obtain ⟨hI, hsz⟩ := hJ'I t A hA
      exact ⟨cell_one hI.ro, cell_one hI.fr, cell_one hI.un, HN.out.1.below hI.be (Nat.le_refl _), hsz⟩
    · intro t x A hj hx
      rw [HYS.out] at hx
      exact YieldAt.deep 0 (hY' t x A hj hx)
  case done =>
    rintro A h hK
    obtain ⟨v, h1, h2⟩ := h.out
    have HI : Hid (TInv w nd key til ys ys.length A) := h
    have HO : Hid (A.ownsRow (w.heap.size + 4) 40 2 v ys.length ((ys.take ys.length).flatMap pc)) := h2
    have cv := cell_one h1
    have HK : Hid (A.heap[w1.heap.size]? = some (.deferred (some []))) := hK
    clear h h1 h2 hK
    gi_wp2
    refine ⟨by simp, .inl ⟨_, _, rfl, run_takeDeferred HK.out, ?_⟩⟩
    refine ⟨_, results_tmp rfl _ _ _, v, rfl, ?_, HI.out.be.trans (below_putObj _ A _ _ (by have := HS1.out; omega))⟩
    have e := HO.out
    rw [List.take_length] at e
    exact own_mono (own_rows e (belowR_putObj (D := w.heap.size) _ (by have := HS1.out; omega) HK.out def_row)) (by omega)
  case stop => rintro c A h; exact h.elim
end Go.Proofs.Ytnagknlfboadkaa.Oct

/- Layer 7 (tree): the reference's 'Same' of two lists that are the same; 'told' of a map that no call made; the statements' 'lives'. -/
namespace Go.Proofs.Ytnagknlfboadkaa.Oct
open Go.RowKit Go.Shelf
attribute [local go_sem] Oper.semAt_some

set_option maxRecDepth 100000 in
theorem same_is (w : World) (g off c g2 off2 c2 n : Nat) (ps : List Pr) (h : RdP w (some ⟨g, off, none⟩) n ps) (h2 : RdP w (some ⟨g2, off2, none⟩) n ps) (hn : n ≤ 1000000) :
    Calls Try.prog 12 #[.slice (some ⟨g, off, none⟩) n c, .slice (some ⟨g2, off2, none⟩) n c2] w fun e w' => e = .returned (.bool true) ∧ Below w.heap.size w w' := by
  have HR : Hid (RdP w (some ⟨g, off, none⟩) n ps ∧ RdP w (some ⟨g2, off2, none⟩) n ps ∧ n ≤ 1000000) := ⟨h, h2, hn⟩
  clear h h2 hn
  go_enter Try.func12, Try.ntmps12
  go_wp2
  go_loopw [5] (fun u wr => ∃ i : Nat, u = .int .i64 (i : Int) ∧ Hid (i ≤ n) ∧ Hid (Below w.heap.size w wr)) (fun u _ => n - (intOf u).toNat)
  case atStart => exact ⟨0, rfl, Nat.zero_le _, Below.refl _ _⟩
  case round =>
    obtain ⟨i, rfl, HI, HB⟩ := hrel
    by_cases hi : i < n
    · obtain ⟨x, hx⟩ : ∃ x, ps[i]? = some x := ⟨_, List.getElem?_eq_getElem (by rw [HR.out.1.1]; exact hi)⟩
      obtain ⟨_, _, e1, hg1, hc1⟩ := HR.out.1.2 (by omega)
      cases e1
      obtain ⟨_, _, e2, hg2, hc2⟩ := HR.out.2.1.2 (by omega)
      cases e2
      have a0 : wr.cell? ⟨g, off + i * 2, none⟩ = some (.string x.1) := (HB.out.cell (p := ⟨g, _, none⟩) hg1.lt).trans (hc1 i x hx).1
      have a1 : wr.cell? ⟨g, off + i * 2 + 1, none⟩ = some (.string x.2) := (HB.out.cell (p := ⟨g, _, none⟩) hg1.lt).trans (hc1 i x hx).2
      have b0 : wr.cell? ⟨g2, off2 + i * 2, none⟩ = some (.string x.1) := (HB.out.cell (p := ⟨g2, _, none⟩) hg2.lt).trans (hc2 i x hx).1
      have b1 : wr.cell? ⟨g2, off2 + i * 2 + 1, none⟩ = some (.string x.2) := (HB.out.cell (p := ⟨g2, _, none⟩) hg2.lt).trans (hc2 i x hx).2
      have q1 : (i : Int) < (n : Int) := by omega
      have q2 : (n : Int) ≤ 1000000 := by have := HR.out.2.2; omega
      have HL : Hid (i < n) := hi
      generalize x.1 = x1 at *
      generalize x.2 = x2 at *
      clear hc1 hc2 hx hi hg1 hg2
      go_wp2
      go_quiet (fail)
      go_wp2
      go_roundw
      case rel => exact ⟨i + 1, by simp, HL.out, below_drewN HB.out _⟩
      case measure => have := HL.out; simp [intOf]; omega
    · have q1 : ¬ (i : Int) < (n : Int) := by omega
      go_wp2
      go_ret
      exact ⟨rfl, HB.out⟩

set_option maxRecDepth 100000 in
set_option maxHeartbeats 2000000 in
theorem told_none (w : World) (p : Option Addr) (key til : ByteArray) (hsc : ∀ W, Below w.heap.size w W → Calls Try.prog 17 #[.pointer p, .string key, .string til] W fun e w' => e = .returned (.func (.func 27) #[] #[]) ∧ Below W.heap.size W w') :
    Calls Try.prog 13 #[.pointer p, .string key, .string til] w fun e w' => e = .returned (.slice none 0 0) ∧ Hid (Below w.heap.size w w') := by
  have HSC : Hid (∀ W, Below w.heap.size w W → Calls Try.prog 17 #[.pointer p, .string key, .string til] W fun e w' => e = .returned (.func (.func 27) #[] #[]) ∧ Below W.heap.size W w') := hsc
  clear hsc
  refine (callsIn_wide (n := 3)).1 ?_
  refine callsIn_of_wp_marks Try.func13 rfl trivial ?_ rfl
  simp only [Try.ntmps13, List.size_toArray, List.length_cons, List.length_nil, Nat.reduceAdd, Nat.reduceSub, Array.replicate_succ, Array.replicate_zero, List.push_toArray, List.append_toArray, List.nil_append, List.cons_append]
  have HB0 : Hid (Below w.heap.size w (w.alloc (.cells #[.slice none 0 0] 27))) := (Below.refl _ w).alloc (Nat.le_refl _) _
  have nn := not_nil27
  gi_wp2_with (refine ⟨trivial, ?_⟩; gi_at_call 17; refine (callsIn_wide.2 (HSC.out _ HB0.out)).mono ?_; rintro e w1 ⟨rfl, hB1⟩; have HB1 := hB1; clear hB1)
  have hb1 : w1.heap[w.heap.size]? = some (.cells #[.slice none 0 0] 27) := (HB1.block _ (by simp)).trans (World.alloc_heap_new w _)
  have hB1 : Below w.heap.size w w1 := HB0.out.trans (HB1.mono (by simp))
  have hS1 : w.heap.size < w1.heap.size := lt_of_block hb1
  refine rangeLeave (X := Empty) (gf := 27) (lb := #[]) rfl (enters_of Try.func27 (by kernel_rfl) rfl) (fun _ x => x.elim) (fun _ x => x.elim) []
    (fun _ A => Below w.heap.size w A ∧ A.heap[w.heap.size]? = some (.cells #[.slice none 0 0] 27)) (fun _ _ => False) (fun t A B h hb => ⟨h.1.trans (hb.below.mono (by omega)), (hb.below.block _ (by omega)).trans h.2⟩) (fun _ _ _ h _ => h) ⟨hB1, hb1⟩ (fun _ x => x.elim) (fun _ x => x.elim) (fun _ x => x.elim) ?iter ?done ?stop
  case iter =>
    intro J' Jx' A hS hB hJ'b hJx'b hJ'I hJ'X hY' h0'
    refine (nothing_in _ _ A).mono ?_
    rintro e B ⟨h, rfl⟩
    exact ⟨h, .inl h0'⟩
  case done =>
    rintro A ⟨h1, h2⟩ hK
    have cv := cell_one h2
    have HK : Hid (A.heap[w1.heap.size]? = some (.deferred (some []))) := hK
    have HA : Hid (Below w.heap.size w A) := h1
    clear h1 h2 hK
    gi_wp2
    refine ⟨by simp, .inl ⟨_, _, rfl, run_takeDeferred HK.out, ?_⟩⟩
    exact ⟨_, results_tmp rfl _ _ _, rfl, HA.out.trans (below_putObj _ A _ _ (by omega))⟩
  case stop => rintro c A h; exact h.elim

def sA : ByteArray := ⟨#[97]⟩
def sB : ByteArray := ⟨#[98]⟩
def s1 : ByteArray := ⟨#[49]⟩
def s2 : ByteArray := ⟨#[50]⟩
def s3 : ByteArray := ⟨#[51]⟩
theorem toList_is (s : ByteArray) : s.toList = s.data.toList := ByteArray.toList_eq s
theorem lA : sA.toList = [97] := toList_is _
theorem lB : sB.toList = [98] := toList_is _
theorem l0 : (⟨#[]⟩ : ByteArray).toList = [] := toList_is _
theorem geBA : geS sB sA = true := by rw [geS, lA, lB]; decide
theorem geAA : geS sA sA = true := by rw [geS, lA]; decide
theorem geAB : geS sA sB = false := by rw [geS, lA, lB]; decide
theorem geBB : geS sB sB = true := by rw [geS, lB]; decide
theorem geA0 : geS sA ⟨#[]⟩ = true := by rw [geS, lA, l0]; decide
theorem geB0 : geS sB ⟨#[]⟩ = true := by rw [geS, lB, l0]; decide
theorem mono_all {ps : List Pr} {key : ByteArray} (h : ∀ x ∈ ps, geS x.1 key = true) : Mono ps key := fun _ _ _ y _ _ hj _ => h y (List.mem_of_getElem? hj)
theorem at_all {ps : List Pr} {key : ByteArray} (h : ∀ x ∈ ps, geS x.1 key = true) : AtP ps key 0 := ⟨Nat.zero_le _, fun i x hi _ => absurd hi (by omega), fun i x _ hx => h x (List.mem_of_getElem? hx)⟩
theorem all1 : ∀ x ∈ [(sB, s1)], geS x.1 sA = true := by
  intro x hx
  rw [List.mem_singleton.1 hx]; exact geBA
theorem all2 (v : ByteArray) : ∀ x ∈ [(sA, v), (sB, s1)], geS x.1 sA = true := by
  intro x hx
  rcases List.mem_cons.1 hx with rfl | hx
  · exact geAA
  · rw [List.mem_singleton.1 hx]; exact geBA
theorem all0 (v : ByteArray) : ∀ x ∈ [(sA, v), (sB, s1)], geS x.1 ⟨#[]⟩ = true := by
  intro x hx
  rcases List.mem_cons.1 hx with rfl | hx
  · exact geA0
  · rw [List.mem_singleton.1 hx]; exact geB0
theorem ne_BA : (sB.toList == sA.toList) = false := by rw [lA, lB]; decide
theorem eq_AA : (sA.toList == sA.toList) = true := by rw [lA]; decide
theorem putp2 : putP [(sB, s1)] (sA, s2) 0 = [(sA, s2), (sB, s1)] := by
  have : isP [(sB, s1)] sA 0 = false := ne_BA
  simp [putP, this]
theorem putp3 : putP [(sA, s2), (sB, s1)] (sA, s3) 0 = [(sA, s3), (sB, s1)] := by
  have : isP [(sA, s2), (sB, s1)] sA 0 = true := eq_AA
  simp [putP, this]
theorem scan3 : scanP [(sA, s3), (sB, s1)] 0 sB = [(sA, s3)] := by
  have e : sB.toList.isEmpty = false := by rw [lB]; rfl
  have h1 : okS sB (sA, s3) = true := by simp [okS, e, geAB]
  have h2 : okS sB (sB, s1) = false := by simp [okS, e, geBB]
  simp [scanP, h1, h2]

theorem put1 (w : World) (m : Nat) (h : Mp w m (.pointer none) 0) : Calls Try.prog 19 #[.pointer (some ⟨m, 0, none⟩), .string ⟨#[98]⟩, .string ⟨#[49]⟩] w fun e w' => e = .returned (.bool false) ∧ Hid (Putd w w' m 1 [(sB, s1)]) := by
  refine (mput_nil w m (sB, s1) h).mono ?_
  rintro e w' ⟨nd, g, rfl, h1, h2, h3⟩
  exact ⟨rfl, nd, g, 1, 1, h1, h2, h3.out.1, h3.out.2, Nat.le_refl _⟩
theorem put2 (w0 w : World) (m : Nat) (h : Putd w0 w m 1 [(sB, s1)]) : Calls Try.prog 19 #[.pointer (some ⟨m, 0, none⟩), .string ⟨#[97]⟩, .string ⟨#[50]⟩] w fun e w' => e = .returned (.bool false) ∧ Hid (Putd w w' m 2 [(sA, s2), (sB, s1)]) := by
  obtain ⟨nd, g, cap, N, h1, h2, h3, h4, h5⟩ := h
  have hN : N = 1 := h2.rd.1.symm
  subst hN
  refine (mput_leaf w m nd g 0 1 cap 1 _ (sA, s2) h1 h2 (mono_all all1) (by omega) h5 (by omega) false 0 (at_all all1) ne_BA).mono ?_
  rintro e w' ⟨rfl, h6⟩
  rw [putp2] at h6
  exact ⟨rfl, h6⟩
theorem put3 (w0 w : World) (m : Nat) (h : Putd w0 w m 2 [(sA, s2), (sB, s1)]) : Calls Try.prog 19 #[.pointer (some ⟨m, 0, none⟩), .string ⟨#[97]⟩, .string ⟨#[51]⟩] w fun e w' => e = .returned (.bool true) ∧ Hid (Putd w w' m 2 [(sA, s3), (sB, s1)]) := by
  obtain ⟨nd, g, cap, N, h1, h2, h3, h4, h5⟩ := h
  have hN : N = 2 := h2.rd.1.symm
  subst hN
  refine (mput_leaf w m nd g 0 2 cap 2 _ (sA, s3) h1 h2 (mono_all (all2 s2)) (by omega) h5 (by omega) true 0 (at_all (all2 s2)) eq_AA).mono ?_
  rintro e w' ⟨rfl, h6⟩
  rw [putp3] at h6
  exact ⟨rfl, h6⟩
theorem len3 (w0 w : World) (m c : Nat) (ps : List Pr) (h : Putd w0 w m c ps) : Calls Try.prog 15 #[.pointer (some ⟨m, 0, none⟩)] w fun e w' => e = .returned (.int .i64 (c : Int)) ∧ w = w' := by
  obtain ⟨nd, g, cap, N, h1, h2, h3, h4, h5⟩ := h
  exact len_is w m _ c h1
theorem depth3 (w0 w : World) (m c : Nat) (ps : List Pr) (h : Putd w0 w m c ps) : Calls Try.prog 20 #[.pointer (some ⟨m, 0, none⟩)] w fun e w' => e = .returned (.int .i64 1) ∧ w = w' := by
  obtain ⟨nd, g, cap, N, h1, h2, h3, h4, h5⟩ := h
  exact depth_is w m nd c h1 (h2.blk.cell (i := 1) rfl)
theorem Putd.keep {w0 w w' : World} {m c : Nat} {ps : List Pr} (h : Putd w0 w m c ps) (hb : Below w.heap.size w w') : Putd w0 w' m c ps := by
  obtain ⟨nd, g, cap, N, h1, h2, h3, h4, h5⟩ := h
  exact ⟨nd, g, cap, N, h1.keep hb (Nat.le_refl _), h2.below hb (Nat.le_refl _), grown_tr h3 (below_grown hb _), h4, h5⟩
theorem get3 (w0 w : World) (m : Nat) (h : Putd w0 w m 2 [(sA, s3), (sB, s1)]) : Calls Try.prog 21 #[.pointer (some ⟨m, 0, none⟩), .string ⟨#[97]⟩] w fun e w' => e = .returned (.tuple #[.string ⟨#[51]⟩, .bool true]) ∧ Hid (Below w.heap.size w w') := by
  obtain ⟨nd, g, cap, N, h1, h2, h3, h4, h5⟩ := h
  have hN : N = 2 := h2.rd.1.symm
  subst hN
  refine (mget_is w m nd _ 2 cap 2 _ sA h1 h2 (mono_all (all2 s3)) (by omega)).mono ?_
  rintro e w' ⟨k, rfl, h6, h7⟩
  obtain rfl : k = 0 := h6.out.uniq (at_all (all2 s3))
  have e : isP [(sA, s3), (sB, s1)] sA 0 = true := eq_AA
  have e2 : valP [(sA, s3), (sB, s1)] sA 0 = s3 := by simp [valP, e]
  rw [e, e2]
  exact ⟨rfl, h7⟩
theorem told3 (w0 w : World) (m : Nat) (h : Putd w0 w m 2 [(sA, s3), (sB, s1)]) : Calls Try.prog 13 #[.pointer (some ⟨m, 0, none⟩), .string ⟨#[]⟩, .string ⟨#[98]⟩] w fun e w' => ∃ g cap, e = .returned (.slice (some ⟨g, 0, none⟩) 1 cap) ∧ Hid (RdP w' (some ⟨g, 0, none⟩) 1 [(sA, s3)]) ∧ Hid (Below w.heap.size w w') := by
  obtain ⟨nd, g, cap, N, h1, h2, h3, h4, h5⟩ := h
  have hN : N = 2 := h2.rd.1.symm
  subst hN
  refine (told_yes w m nd 2 cap 2 _ _ ⟨#[]⟩ sB 0 h1 h2 (by omega) (mono_all (all0 s3)) (at_all (all0 s3))).mono ?_
  rintro e w' ⟨v, rfl, h6, h7⟩
  rw [scan3] at h6
  obtain ⟨g', cap', rfl, h8, _⟩ := own_rd h6.out (by simp)
  exact ⟨g', cap', rfl, h8, h7⟩

theorem below_put {w a b : World} {m c : Nat} {ps : List Pr} (h : Below w.heap.size w a) (hp : Putd a b m c ps) (hm : w.heap.size ≤ m) : Below w.heap.size w b := by
  obtain ⟨_, _, _, _, _, _, hg, _⟩ := hp
  have := h.size
  exact ⟨hg.os.trans h.os, hg.tape.trans h.tape, hg.output.trans h.output, Nat.le_trans h.size hg.size, fun k hk => (hg.block k (by omega) (fun e => by cases e; omega)).trans (h.block k hk)⟩
set_option maxRecDepth 100000 in
theorem lives_is (w : World) : Calls Try.prog 9 #[] w fun e w' => e = .returned (.bool true) ∧ Hid (Below w.heap.size w w') := by
  go_enter Try.func9, Try.ntmps9
  go_wp2_with fail
  refine (new_is w).mono ?_
  rintro e w1 ⟨rfl, HM1, HB1⟩
  obtain ⟨m, hm⟩ : ∃ m, w.heap.size = m := ⟨_, rfl⟩
  rw [hm] at HM1 ⊢
  have HMM : Hid (w.heap.size = m) := hm
  clear hm
  go_wp2_with fail
  refine (put1 w1 m HM1.out).mono ?_
  rintro e w2 ⟨rfl, HP2⟩
  go_wp2_with fail
  refine (put2 w1 w2 m HP2.out).mono ?_
  rintro e w3 ⟨rfl, HP3⟩
  go_wp2_with fail
  refine (put3 w2 w3 m HP3.out).mono ?_
  rintro e w4 ⟨rfl, HP4⟩
  go_wp2_with fail
  refine (len3 w3 w4 m 2 _ HP4.out).mono ?_
  rintro e w5 ⟨rfl, rfl⟩
  go_wp2_with fail
  refine (depth3 w3 w4 m 2 _ HP4.out).mono ?_
  rintro e w5 ⟨rfl, rfl⟩
  go_wp2_with fail
  refine (get3 w3 w4 m HP4.out).mono ?_
  rintro e w5 ⟨rfl, HB5⟩
  go_wp2_with fail
  refine (told3 w3 w5 m (HP4.out.keep HB5.out)).mono ?_
  rintro e w6 ⟨g6, cap6, rfl, HR6, HB6⟩
  go_wp2_with fail
  have HR7 : Hid (RdP (w6.alloc (Obj.cells #[Value.string { data := #[97] }, Value.string { data := #[51] }] 40)) (some ⟨w6.heap.size, 0, none⟩) 1 [(sA, s3)]) := by
    have hb2 := Blk.new w6 #[.string sA, .string s3] 40
    exact rd_of_cells (ps := [(sA, s3)]) (off := 0) (fun _ => hb2.row) (fun j u hu => by rw [Nat.zero_add]; exact hb2.cell hu)
  have HB7 : Hid (Below w6.heap.size w6 (w6.alloc (Obj.cells #[Value.string { data := #[97] }, Value.string { data := #[51] }] 40))) := (Below.refl _ w6).alloc (Nat.le_refl _) _
  refine (same_is _ g6 0 cap6 w6.heap.size 0 1 1 [(sA, s3)] (HR6.out.below HB7.out (Nat.le_refl _)) HR7.out (by omega)).mono ?_
  rintro e w8 ⟨rfl, hB8⟩
  have HB8 : Hid (Below w6.heap.size w6 w8) := HB7.out.trans (hB8.mono HB7.out.size)
  clear hB8
  go_wp2
  go_ret
  refine ⟨rfl, ?_⟩
  have k1 := HB1.out
  have hmm : w.heap.size ≤ m := Nat.le_of_eq HMM.out
  have k2 := below_put k1 HP2.out hmm
  have k3 := below_put k2 HP3.out hmm
  have k4 := below_put k3 HP4.out hmm
  have k5 := k4.trans (HB5.out.mono k4.size)
  have k6 := k5.trans (HB6.out.mono k5.size)
  exact k6.trans (HB8.out.mono k6.size)
end Go.Proofs.Ytnagknlfboadkaa.Oct

/- Layer 7 (tree): the reference's Find, Get, Same. -/
namespace Go.Proofs.Ytnagknlfboadkaa.Oct
open Go.RowKit

set_option maxRecDepth 100000 in
set_option maxHeartbeats 1000000 in
theorem find_is (w : World) (a : Option Addr) (n cap : Nat) (ps : List Pr) (key : ByteArray) (k : Nat) (h : RdP w a n ps) (ha : AtP ps key k) (hn : n ≤ 1000000) :
    Calls Try.prog 36 #[.slice a n cap, .string key] w fun e w' => e = .returned (.tuple #[.int .i64 (k : Int), .bool (isP ps key k)]) ∧ Hid (Below w.heap.size w w') := by
  have HR : Hid (RdP w a n ps ∧ AtP ps key k ∧ n ≤ 1000000) := ⟨h, ha, hn⟩
  clear h ha hn
  go_enter Try.func36, Try.ntmps36
  go_wp2
  go_loopw [6] (fun u wr => ∃ i : Nat, u = .int .i64 (i : Int) ∧ Hid (i ≤ k) ∧ Hid (w = wr)) (fun u _ => n - (intOf u).toNat)
  case atStart => exact ⟨0, rfl, Nat.zero_le _, rfl⟩
  case round =>
    obtain ⟨i, rfl, HI, HW⟩ := hrel
    have hW := HW.out
    subst hW
    have q2 : (n : Int) ≤ 1000000 := by have := HR.out.2.2; omega
    have hkn : k ≤ n := by have := HR.out.2.1.1; rw [HR.out.1.1] at this; exact this
    by_cases hi : i < n
    · obtain ⟨x, hx⟩ : ∃ x, ps[i]? = some x := ⟨_, List.getElem?_eq_getElem (by rw [HR.out.1.1]; exact hi)⟩
      obtain ⟨g, off, rfl, hg1, hc1⟩ := HR.out.1.2 (by omega)
      have a0 := (hc1 i x hx).1
      have q1 : (i : Int) < (n : Int) := by omega
      have HL : Hid (i < n) := hi
      by_cases hik : i < k
      · have HK : Hid (i < k) := hik
        have hlt : Op.bytesLess x.1.toList key.toList = true := by
          have := HR.out.2.1.2.1 i x hik hx
          unfold geS at this
          simpa using this
        generalize x.1 = x1 at *
        clear hc1 hx hi hg1 hik hkn
        go_wp2
        go_roundw
        case rel => exact ⟨i + 1, by simp, HK.out, trivial⟩
        case measure => have := HL.out; simp [intOf]; omega
      · have hik' : i = k := by have := HI.out; omega
        subst hik'
        have hlt : Op.bytesLess x.1.toList key.toList = false := by
          have := HR.out.2.1.2.2 i x (Nat.le_refl _) hx
          unfold geS at this
          simpa using this
        have HIS : Hid (isP ps key i = (x.1.toList == key.toList)) := by show _ = _; simp only [isP, hx]
        generalize x.1 = x1 at *
        clear hc1 hx hi hg1 hik hkn
        go_wp2
        go_quiet (fail)
        go_wp2
        go_ret2
        exact ⟨by rw [HIS.out]; rfl, below_drewN (Below.refl _ _) _⟩
    · have hik' : i = k := by have := HI.out; omega
      subst hik'
      have q1 : ¬ (i : Int) < (n : Int) := by omega
      have HIS : Hid (isP ps key i = false) := by
        show _ = _
        have : ps[i]? = none := by rw [List.getElem?_eq_none_iff, HR.out.1.1]; omega
        simp only [isP, this]
      clear hkn
      go_wp2
      go_quiet (fail)
      go_wp2
      go_ret2
      exact ⟨by rw [HIS.out]; rfl, below_drewN (Below.refl _ _) _⟩

theorem rget_is (w : World) (a : Option Addr) (n cap : Nat) (ps : List Pr) (key : ByteArray) (h : RdP w a n ps) (hr : Ris ps) (hn : n ≤ 1000000) :
    Calls Try.prog 23 #[.slice a n cap, .string key] w fun e w' => e = .returned (.tuple #[.string (gv (eqs key ps)), .bool (!(eqs key ps).isEmpty)]) ∧ Hid (Below w.heap.size w w') := by
  obtain ⟨k, ha⟩ := find_at ps key (ris_mono hr key)
  have HC : Hid (RdP w a n ps ∧ AtP ps key k ∧ n ≤ 1000000) := ⟨h, ha, hn⟩
  cases hi : isP ps key k with
  | false =>
    have HE : Hid (eqs key ps = [] ∧ isP ps key k = false) := ⟨eqs_no hr ha hi, hi⟩
    clear h ha hr hn hi
    go_enter Try.func23, Try.ntmps23
    go_wp2_with (go_at_call 36; refine (find_is w a n cap ps key k HC.out.1 HC.out.2.1 HC.out.2.2).mono ?_; rintro e w3 ⟨rfl, HB⟩; rw [HE.out.2])
    go_ret2
    exact ⟨by rw [HE.out.1]; rfl, HB⟩
  | true =>
    obtain ⟨x, hx, hk, he⟩ := eqs_is hr ha hi
    have HE : Hid (eqs key ps = [x] ∧ isP ps key k = true ∧ ps[k]? = some x) := ⟨he, hi, hx⟩
    have hkn : k < n := by rw [← h.1]; exact (List.getElem?_eq_some_iff.1 hx).1
    obtain ⟨g, off, rfl, hg1, hc1⟩ := h.2 (by omega)
    have HX : Hid (∀ W, Below w.heap.size w W → W.cell? ⟨g, off + k * 2 + 1, none⟩ = some (.string x.2)) := fun W hW => (hW.cell (p := ⟨g, _, none⟩) hg1.lt).trans (hc1 k x hx).2
    have q1 : (k : Int) < (n : Int) := by omega
    have q0 : (0 : Int) ≤ (k : Int) := by omega
    clear h ha hr hn hi hx hk he hkn hc1 hg1
    go_enter Try.func23, Try.ntmps23
    go_wp2_with (go_at_call 36; refine (find_is w _ n cap ps key k HC.out.1 HC.out.2.1 HC.out.2.2).mono ?_; rintro e w3 ⟨rfl, HB⟩; rw [HE.out.2.1]; have c1 := HX.out w3 HB.out)
    go_ret2
    exact ⟨by rw [HE.out.1]; rfl, HB⟩

/-- are lists of pairs the same? -/
def sameP (ps qs : List Pr) : Bool := decide (ps.map (fun x => (x.1.toList, x.2.toList)) = qs.map (fun x => (x.1.toList, x.2.toList)))
theorem sameP_iff (ps qs : List Pr) : sameP ps qs = true ↔ ps = qs := by
  unfold sameP
  rw [decide_eq_true_iff]
  refine ⟨fun h => ?_, fun h => by rw [h]⟩
  exact (List.map_inj_right (f := fun x : Pr => (x.1.toList, x.2.toList)) fun x y e => by
    obtain ⟨x1, x2⟩ := x
    obtain ⟨y1, y2⟩ := y
    simp only [Prod.mk.injEq] at e ⊢
    exact ⟨list_inj e.1, list_inj e.2⟩).1 h
theorem sameP_no {ps qs : List Pr} (h : ps ≠ qs) : sameP ps qs = false := by
  cases hs : sameP ps qs with
  | false => rfl
  | true => exact absurd ((sameP_iff ps qs).1 hs) h
theorem sameP_yes {ps qs : List Pr} (h : ps = qs) : sameP ps qs = true := (sameP_iff ps qs).2 h

set_option maxRecDepth 100000 in
set_option maxHeartbeats 1000000 in
theorem same_any (w : World) (a : Option Addr) (n c : Nat) (ps : List Pr) (a2 : Option Addr) (n2 c2 : Nat) (qs : List Pr) (h : RdP w a n ps) (h2 : RdP w a2 n2 qs) (hn : n ≤ 1000000) (hn2 : n2 ≤ 1000000) :
    Calls Try.prog 12 #[.slice a n c, .slice a2 n2 c2] w fun e w' => e = .returned (.bool (sameP ps qs)) ∧ Hid (Below w.heap.size w w') := by
  by_cases hne : n = n2
  · subst hne
    have HR : Hid (RdP w a n ps ∧ RdP w a2 n qs ∧ n ≤ 1000000) := ⟨h, h2, hn⟩
    clear h h2 hn hn2
    go_enter Try.func12, Try.ntmps12
    go_wp2
    go_loopw [5] (fun u wr => ∃ i : Nat, u = .int .i64 (i : Int) ∧ Hid (i ≤ n ∧ ps.take i = qs.take i) ∧ Hid (Below w.heap.size w wr)) (fun u _ => n - (intOf u).toNat)
    case atStart => exact ⟨0, rfl, ⟨Nat.zero_le _, rfl⟩, Below.refl _ _⟩
    case round =>
      obtain ⟨i, rfl, HI, HB⟩ := hrel
      by_cases hi : i < n
      · obtain ⟨x, hx⟩ : ∃ x, ps[i]? = some x := ⟨_, List.getElem?_eq_getElem (by rw [HR.out.1.1]; exact hi)⟩
        obtain ⟨y, hy⟩ : ∃ y, qs[i]? = some y := ⟨_, List.getElem?_eq_getElem (by rw [HR.out.2.1.1]; exact hi)⟩
        obtain ⟨g, off, rfl, hg1, hc1⟩ := HR.out.1.2 (by omega)
        obtain ⟨g2, off2, rfl, hg2, hc2⟩ := HR.out.2.1.2 (by omega)
        have a0 : wr.cell? ⟨g, off + i * 2, none⟩ = some (.string x.1) := (HB.out.cell (p := ⟨g, _, none⟩) hg1.lt).trans (hc1 i x hx).1
        have a1 : wr.cell? ⟨g, off + i * 2 + 1, none⟩ = some (.string x.2) := (HB.out.cell (p := ⟨g, _, none⟩) hg1.lt).trans (hc1 i x hx).2
        have b0 : wr.cell? ⟨g2, off2 + i * 2, none⟩ = some (.string y.1) := (HB.out.cell (p := ⟨g2, _, none⟩) hg2.lt).trans (hc2 i y hy).1
        have b1 : wr.cell? ⟨g2, off2 + i * 2 + 1, none⟩ = some (.string y.2) := (HB.out.cell (p := ⟨g2, _, none⟩) hg2.lt).trans (hc2 i y hy).2
        have q1 : (i : Int) < (n : Int) := by omega
        have q2 : (n : Int) ≤ 1000000 := by have := HR.out.2.2; omega
        have HL : Hid (i < n) := hi
        have HX : Hid (ps[i]? = some x ∧ qs[i]? = some y) := ⟨hx, hy⟩
        by_cases hxy : x = y
        · subst hxy
          have HNX : Hid (ps.take (i + 1) = qs.take (i + 1)) := by
            show _ = _
            rw [List.take_add_one, List.take_add_one, HI.out.2, hx, hy]
          generalize x.1 = x1 at *
          generalize x.2 = x2 at *
          clear hc1 hc2 hx hy hi hg1 hg2
          go_wp2
          go_quiet (fail)
          go_wp2
          go_roundw
          case rel => exact ⟨i + 1, by simp, ⟨HL.out, HNX.out⟩, below_drewN HB.out _⟩
          case measure => have := HL.out; simp [intOf]; omega
        · have HNO : Hid (sameP ps qs = false) := sameP_no fun e => hxy (by rw [e, hy] at hx; exact (Option.some.inj hx).symm)
          have hpq : (x.1.toList == y.1.toList) = false ∨ (x.1.toList == y.1.toList) = true ∧ (x.2.toList == y.2.toList) = false := by
            cases e1 : x.1.toList == y.1.toList with
            | false => exact .inl rfl
            | true =>
              cases e2 : x.2.toList == y.2.toList with
              | false => exact .inr ⟨rfl, rfl⟩
              | true => exact absurd (Prod.ext (eqb_iff.1 e1) (eqb_iff.1 e2)) hxy
          generalize x.1 = x1 at *
          generalize x.2 = x2 at *
          generalize y.1 = y1 at *
          generalize y.2 = y2 at *
          clear hc1 hc2 hx hy hi hg1 hg2 hxy
          rcases hpq with p1 | ⟨p1, p2⟩
          · go_wp2
            go_quiet (fail)
            go_wp2
            go_ret
            exact ⟨by rw [HNO.out]; rfl, below_drewN HB.out _⟩
          · have p1' : x1 = y1 := eqb_iff.1 p1
            subst p1'
            clear p1
            go_wp2
            go_quiet (fail)
            go_wp2
            go_ret
            exact ⟨by rw [HNO.out]; rfl, below_drewN HB.out _⟩
      · have q1 : ¬ (i : Int) < (n : Int) := by omega
        have HYES : Hid (sameP ps qs = true) := sameP_yes (by
          have := HI.out.2
          rwa [List.take_of_length_le (by rw [HR.out.1.1]; omega), List.take_of_length_le (by rw [HR.out.2.1.1]; omega)] at this)
        go_wp2
        go_ret
        exact ⟨by rw [HYES.out]; rfl, HB⟩
  · have HNO : Hid (sameP ps qs = false) := sameP_no fun e => hne (by rw [← h.1, ← h2.1, e])
    have q1 : ¬ (n : Int) = (n2 : Int) := by omega
    clear h h2 hn hn2
    go_enter Try.func12, Try.ntmps12
    go_wp2
    go_ret
    exact ⟨by rw [HNO.out]; rfl, Below.refl _ _⟩
end Go.Proofs.Ytnagknlfboadkaa.Oct

/- Layer 7 (tree): the reference's Put and Delete. -/
namespace Go.Proofs.Ytnagknlfboadkaa.Oct
open Go.RowKit

theorem wpList_append_bs {P : Program} {ops : Array Oper} {rest : List Oper} {o : Oper} {a : Act} {Q : Exit → Act → World → Prop} (w : World) (hgd : o.guard = none) (s x : Operand) (t : TypeId)
    (hop : o.op = .call { callee := .builtin .append, args := #[s, x], argTypes := #[t, t] }) (e : TypeId) (i : TypeInfo) (z : Value) (sz B : Nat) (ht : P.underlying t = some (.slice e)) (hi : P.info? e = some i) (hz : i.zero = some z) (hs : i.size = sz) (hby : i.bytes ≤ 64) (hzs : z.cells.size = sz) (hsz : 0 < sz)
    (v : Value) (n : Nat) (cs : List Value) (h : Bs e sz B w v n cs) (ao : Option Addr) (q c : Nat) (qs : List Value) (hsv : a.eval s = v) (hx : a.eval x = .slice ao q c) (ho : Rd w e sz ao q qs) (hB : B ≤ w.heap.size) (hn : n + q ≤ 100000000000)
    (hk : ∀ v' w', Hid (Bs e sz B w' v' (n + q) (cs ++ qs)) → Hid (Below B w w') → wpList P ops Q rest (a.put o.dst v') w') : wpList P ops Q (o :: rest) a w :=
  wpList_plain hgd fun _ hK => by
    obtain ⟨v', w', hr, h2, h3⟩ := run_append_bs (P := P) w t o.type e i z sz B ht hi hz hs hby hzs hsz v n cs h ao q c qs ho hB hn
    unfold Oper.wp execOp
    simp only [hop, resolve, invoke, builtin, Sem.run_bind, Sem.run_pure, Result.andThen_ok, List.map_toArray, List.map_cons, List.map_nil, hsv, hx, hr]
    exact hK _ _ (hk v' w' h2 h3)
theorem ins_at {ps : List Pr} {x : Pr} {k : Nat} (h : Ris ps) (ha : AtP ps x.1 k) : insP ps x = ps.take k ++ [x] ++ ps.drop (if isP ps x.1 k = true then k + 1 else k) := by
  obtain ⟨h1, h2, h3⟩ := ris_at h ha
  cases hi : isP ps x.1 k with
  | true =>
    obtain ⟨y, _, hy, e, hG⟩ := h2 hi
    have : insP (ps.take k ++ y :: ps.drop (k + 1)) x = ps.take k ++ x :: ps.drop (k + 1) := insP_one hy h1 hG
    rw [← e] at this
    rw [this]; simp
  | false =>
    have hG := h3 hi
    have : insP (ps.take k ++ [] ++ ps.drop k) x = ps.take k ++ insP [] x ++ ps.drop k := insP_mid h1 hG
    rw [List.append_nil, List.take_append_drop] at this
    rw [this]; simp [insP, lo, Oct.hi]
theorem rem_at {ps : List Pr} {key : ByteArray} {k : Nat} (h : Ris ps) (ha : AtP ps key k) (hi : isP ps key k = true) : remP ps key = ps.take k ++ ps.drop (k + 1) := by
  obtain ⟨h1, h2, _⟩ := ris_at h ha
  obtain ⟨y, _, hy, e, hG⟩ := h2 hi
  subst hy
  have : remP (ps.take k ++ y :: ps.drop (k + 1)) y.1 = ps.take k ++ ps.drop (k + 1) := remP_one h1 hG
  rwa [← e] at this

/-- a list of the call's own -/
def Rows (w : World) (ps : List Pr) (e : Ending) (w' : World) : Prop := ∃ (a' : Option Addr) (n' cap' : Nat), e = .returned (.slice a' n' cap') ∧ Hid (RdP w' a' n' ps ∧ Cap a' n' cap') ∧ Hid (Below w.heap.size w w')
theorem Bs.alloc {e sz B : Nat} {w : World} {v : Value} {n : Nat} {cs : List Value} (h : Bs e sz B w v n cs) (o : Obj) : Bs e sz B (w.alloc o) v n cs := by
  rcases h with ⟨a, h1, h2, h3⟩ | ⟨h1, h2⟩
  · exact .inl ⟨a, h1, h2.below ((Below.refl w.heap.size w).alloc (Nat.le_refl _) o) (Nat.le_refl _), h3⟩
  · exact .inr ⟨h1, h2.alloc o⟩
theorem one_rd (w : World) (x : Pr) : Rd (w.alloc (.cells #[.string x.1, .string x.2] 40)) 40 2 (some ⟨w.heap.size, 0, none⟩) 1 ([x].flatMap pc) := (rdp_one (Blk.new w #[.string x.1, .string x.2] 40)).toRd
set_option maxRecDepth 100000 in
set_option maxHeartbeats 1000000 in
theorem rput_none (w : World) (ps : List Pr) (x : Pr) (h : RdP w none 0 ps) (ha : AtP ps x.1 0) (hi : isP ps x.1 0 = false) :
    Calls Try.prog 24 #[.slice none 0 0, .string x.1, .string x.2] w (Rows w (ps.take 0 ++ [x] ++ ps.drop 0)) := by
  obtain ⟨i0, hi0, hii⟩ := Option.map_eq_some_iff.1 infoP
  simp only [Prod.mk.injEq] at hii
  have hby : i0.bytes ≤ 64 := by rw [hii.2.2]; omega
  have HC : Hid (RdP w none 0 ps ∧ AtP ps x.1 0) := ⟨h, ha⟩
  have hps : ps = [] := List.eq_nil_of_length_eq_zero h.1
  have HS1 : Hid (∀ W, Below w.heap.size w W → Rd W 40 2 none 0 ((ps.take 0).flatMap pc)) := fun W _ => Rd.nil W 40 2 none
  have HS2 : Hid (∀ W, Below w.heap.size w W → Rd W 40 2 none 0 ((ps.drop 0).flatMap pc)) := fun W _ => by rw [hps]; exact Rd.nil W 40 2 none
  clear hps
  obtain ⟨k0, v0⟩ := x
  have HIS : Hid (isP ps k0 0 = false) := hi
  obtain ⟨T1, hT1⟩ : ∃ T1, (ps.take 0).flatMap pc = T1 := ⟨_, rfl⟩
  obtain ⟨T2, hT2⟩ : ∃ T2, (ps.drop 0).flatMap pc = T2 := ⟨_, rfl⟩
  rw [hT1] at HS1
  rw [hT2] at HS2
  have HTT : Hid (T1 ++ [(k0, v0)].flatMap pc ++ T2 = (ps.take 0 ++ [(k0, v0)] ++ ps.drop 0).flatMap pc) := by show _ = _; rw [← hT1, ← hT2]; simp
  generalize ps.take 0 ++ [(k0, v0)] ++ ps.drop 0 = PS at *
  clear hT1 hT2 h ha hi
  go_enter Try.func24, Try.ntmps24
  go_wp2_with (first
    | (go_at_call 36; refine (find_is w none 0 0 ps k0 0 HC.out.1 HC.out.2 (by omega)).mono ?_; rintro e w3 ⟨rfl, HB⟩; rw [HIS.out])
    | (at_builtin; refine wpList_append_bs _ rfl (.tmp 16) (.tmp 19) 27 rfl 40 i0 _ 2 w.heap.size Try.underlying27 hi0 hii.1 hii.2.1 hby rfl (by omega) (.slice (some ⟨w3.heap.size, 0, none⟩) 0 0) 0 [] (.inl ⟨_, rfl, Rd.nil _ _ _ _, .inr ⟨_, _, rfl⟩⟩) none 0 0 T1 rfl rfl (HS1.out _ (HB.out.alloc HB.out.size _)) (by have := HB.out.size; simp; omega) (by omega) ?_; intro v4 w4 HO4 HB4; rw [Nat.zero_add, List.nil_append] at HO4; have HW4 : Hid (Below w.heap.size w w4) := (HB.out.alloc HB.out.size _).trans HB4.out; obtain ⟨a4, cap4, rfl, _⟩ := HO4.out.read)
    | (at_builtin; refine wpList_append_bs _ rfl (.tmp 21) (.tmp 25) 27 rfl 40 i0 _ 2 w.heap.size Try.underlying27 hi0 hii.1 hii.2.1 hby rfl (by omega) _ _ _ (HO4.out.alloc _) (some ⟨w4.heap.size, 0, none⟩) 1 1 ([(k0, v0)].flatMap pc) rfl rfl (one_rd w4 (k0, v0)) (by have := HW4.out.size; simp; omega) (by omega) ?_; intro v5 w5 HO5 HB5; have HW5 : Hid (Below w.heap.size w w5) := (HW4.out.alloc HW4.out.size _).trans HB5.out; obtain ⟨a5, cap5, rfl, _⟩ := HO5.out.read)
    | (at_builtin; refine wpList_append_bs _ rfl (.tmp 30) (.tmp 33) 27 rfl 40 i0 _ 2 w.heap.size Try.underlying27 hi0 hii.1 hii.2.1 hby rfl (by omega) _ _ _ HO5.out none 0 0 T2 rfl rfl (HS2.out w5 HW5.out) HW5.out.size (by omega) ?_; intro v6 w6 HO6 HB6; have HW6 : Hid (Below w.heap.size w w6) := HW5.out.trans HB6.out; obtain ⟨a6, cap6, rfl, h6, h7, h8⟩ := HO6.out.read))
  go_ret
  exact ⟨a6, _, cap6, rfl, ⟨(show Rd w6 40 2 a6 _ _ by rw [← HTT.out]; exact h7).toP, h6, h8⟩, HW6⟩
set_option maxRecDepth 100000 in
set_option maxHeartbeats 1000000 in
theorem rput_full (w : World) (g off k : Nat) (ps : List Pr) (x : Pr) (h : RdP w (some ⟨g, off, none⟩) k ps) (ha : AtP ps x.1 k) (hi : isP ps x.1 k = false) (hn : k ≤ 100000) :
    Calls Try.prog 24 #[.slice (some ⟨g, off, none⟩) k k, .string x.1, .string x.2] w (Rows w (ps.take k ++ [x] ++ ps.drop k)) := by
  obtain ⟨i0, hi0, hii⟩ := Option.map_eq_some_iff.1 infoP
  simp only [Prod.mk.injEq] at hii
  have hby : i0.bytes ≤ 64 := by rw [hii.2.2]; omega
  have HC : Hid (RdP w (some ⟨g, off, none⟩) k ps ∧ AtP ps x.1 k ∧ k ≤ 100001) := ⟨h, ha, by omega⟩
  have HS1 : Hid (∀ W, Below w.heap.size w W → Rd W 40 2 (some ⟨g, off, none⟩) k ((ps.take k).flatMap pc)) := fun W hW => by
    have := (h.below hW (Nat.le_refl _)).toRd.take (i := k) (by omega)
    rwa [flat_take] at this
  have HS2 : Hid (∀ W, Below w.heap.size w W → Rd W 40 2 (some ⟨g, off, none⟩) 0 ((ps.drop k).flatMap pc)) := fun W hW => by
    rw [List.drop_eq_nil_of_le (by rw [h.1]; exact Nat.le_refl _)]; exact Rd.nil W 40 2 _
  obtain ⟨k0, v0⟩ := x
  have HIS : Hid (isP ps k0 k = false) := hi
  obtain ⟨T1, hT1⟩ : ∃ T1, (ps.take k).flatMap pc = T1 := ⟨_, rfl⟩
  obtain ⟨T2, hT2⟩ : ∃ T2, (ps.drop k).flatMap pc = T2 := ⟨_, rfl⟩
  rw [hT1] at HS1
  rw [hT2] at HS2
  have HTT : Hid (T1 ++ [(k0, v0)].flatMap pc ++ T2 = (ps.take k ++ [(k0, v0)] ++ ps.drop k).flatMap pc) := by show _ = _; rw [← hT1, ← hT2]; simp
  generalize ps.take k ++ [(k0, v0)] ++ ps.drop k = PS at *
  clear hT1 hT2 h ha hi
  have q3 : (0 : Int) ≤ (k : Int) := by omega
  have q4 : (k : Int) ≤ 100000 := by omega
  go_enter Try.func24, Try.ntmps24
  go_wp2_with (first
    | (go_at_call 36; refine (find_is w _ k k ps k0 k HC.out.1 HC.out.2.1 (by have := HC.out.2.2; omega)).mono ?_; rintro e w3 ⟨rfl, HB⟩; rw [HIS.out])
    | (at_builtin; refine wpList_append_bs _ rfl (.tmp 16) (.tmp 19) 27 rfl 40 i0 _ 2 w.heap.size Try.underlying27 hi0 hii.1 hii.2.1 hby rfl (by omega) (.slice (some ⟨w3.heap.size, 0, none⟩) 0 0) 0 [] (.inl ⟨_, rfl, Rd.nil _ _ _ _, .inr ⟨_, _, rfl⟩⟩) (some ⟨g, off, none⟩) k k T1 rfl rfl (HS1.out _ (HB.out.alloc HB.out.size _)) (by have := HB.out.size; simp; omega) (by have := HC.out; omega) ?_; intro v4 w4 HO4 HB4; rw [Nat.zero_add, List.nil_append] at HO4; have HW4 : Hid (Below w.heap.size w w4) := (HB.out.alloc HB.out.size _).trans HB4.out; obtain ⟨a4, cap4, rfl, _⟩ := HO4.out.read)
    | (at_builtin; refine wpList_append_bs _ rfl (.tmp 21) (.tmp 25) 27 rfl 40 i0 _ 2 w.heap.size Try.underlying27 hi0 hii.1 hii.2.1 hby rfl (by omega) _ _ _ (HO4.out.alloc _) (some ⟨w4.heap.size, 0, none⟩) 1 1 ([(k0, v0)].flatMap pc) rfl rfl (one_rd w4 (k0, v0)) (by have := HW4.out.size; simp; omega) (by have := HC.out; omega) ?_; intro v5 w5 HO5 HB5; have HW5 : Hid (Below w.heap.size w w5) := (HW4.out.alloc HW4.out.size _).trans HB5.out; obtain ⟨a5, cap5, rfl, _⟩ := HO5.out.read)
    | (at_builtin; refine wpList_append_bs _ rfl (.tmp 30) (.tmp 33) 27 rfl 40 i0 _ 2 w.heap.size Try.underlying27 hi0 hii.1 hii.2.1 hby rfl (by omega) _ _ _ HO5.out (some ⟨g, off, none⟩) 0 0 T2 rfl rfl (HS2.out w5 HW5.out) HW5.out.size (by have := HC.out; omega) ?_; intro v6 w6 HO6 HB6; have HW6 : Hid (Below w.heap.size w w6) := HW5.out.trans HB6.out; obtain ⟨a6, cap6, rfl, h6, h7, h8⟩ := HO6.out.read))
  go_ret
  exact ⟨a6, _, cap6, rfl, ⟨(show Rd w6 40 2 a6 _ _ by rw [← HTT.out]; exact h7).toP, h6, h8⟩, HW6⟩
set_option maxRecDepth 100000 in
set_option maxHeartbeats 1000000 in
theorem rput_some (w : World) (g off n cap k : Nat) (ps : List Pr) (x : Pr) (h : RdP w (some ⟨g, off, none⟩) n ps) (hc : n ≤ cap) (ha : AtP ps x.1 k) (hi : isP ps x.1 k = false) (hjn : k ≤ n) (hcj : ¬ cap = k) (hn : n ≤ 100000) :
    Calls Try.prog 24 #[.slice (some ⟨g, off, none⟩) n cap, .string x.1, .string x.2] w (Rows w (ps.take k ++ [x] ++ ps.drop k)) := by
  obtain ⟨i0, hi0, hii⟩ := Option.map_eq_some_iff.1 infoP
  simp only [Prod.mk.injEq] at hii
  have hby : i0.bytes ≤ 64 := by rw [hii.2.2]; omega
  have HC : Hid (RdP w (some ⟨g, off, none⟩) n ps ∧ AtP ps x.1 k ∧ n ≤ 100001) := ⟨h, ha, by omega⟩
  have HS1 : Hid (∀ W, Below w.heap.size w W → Rd W 40 2 (some ⟨g, off, none⟩) k ((ps.take k).flatMap pc)) := fun W hW => by
    have := (h.below hW (Nat.le_refl _)).toRd.take (i := k) (by omega)
    rwa [flat_take] at this
  have HS2 : Hid (∀ W, Below w.heap.size w W → Rd W 40 2 (some ⟨g, off + k * 2, none⟩) (n - k) ((ps.drop k).flatMap pc)) := fun W hW => by
    have := (h.below hW (Nat.le_refl _)).toRd.drop (j := k) hjn
    rwa [flat_drop] at this
  obtain ⟨k0, v0⟩ := x
  have HIS : Hid (isP ps k0 k = false) := hi
  obtain ⟨T1, hT1⟩ : ∃ T1, (ps.take k).flatMap pc = T1 := ⟨_, rfl⟩
  obtain ⟨T2, hT2⟩ : ∃ T2, (ps.drop k).flatMap pc = T2 := ⟨_, rfl⟩
  rw [hT1] at HS1
  rw [hT2] at HS2
  have HTT : Hid (T1 ++ [(k0, v0)].flatMap pc ++ T2 = (ps.take k ++ [(k0, v0)] ++ ps.drop k).flatMap pc) := by show _ = _; rw [← hT1, ← hT2]; simp
  generalize ps.take k ++ [(k0, v0)] ++ ps.drop k = PS at *
  clear hT1 hT2 h ha hi
  have q1 : (k : Int) ≤ (n : Int) := by omega
  have q2 : (n : Int) ≤ (cap : Int) := by omega
  have q3 : (0 : Int) ≤ (k : Int) := by omega
  have q4 : (n : Int) ≤ 100000 := by omega
  have q5 : ¬ cap - k = 0 := by omega
  have q6 : (k : Int) ≤ (cap : Int) := by omega
  go_enter Try.func24, Try.ntmps24
  go_wp2_with (first
    | (go_at_call 36; refine (find_is w _ n cap ps k0 k HC.out.1 HC.out.2.1 (by have := HC.out.2.2; omega)).mono ?_; rintro e w3 ⟨rfl, HB⟩; rw [HIS.out])
    | (at_builtin; refine wpList_append_bs _ rfl (.tmp 16) (.tmp 19) 27 rfl 40 i0 _ 2 w.heap.size Try.underlying27 hi0 hii.1 hii.2.1 hby rfl (by omega) (.slice (some ⟨w3.heap.size, 0, none⟩) 0 0) 0 [] (.inl ⟨_, rfl, Rd.nil _ _ _ _, .inr ⟨_, _, rfl⟩⟩) (some ⟨g, off, none⟩) k cap T1 rfl rfl (HS1.out _ (HB.out.alloc HB.out.size _)) (by have := HB.out.size; simp; omega) (by have := HC.out; omega) ?_; intro v4 w4 HO4 HB4; rw [Nat.zero_add, List.nil_append] at HO4; have HW4 : Hid (Below w.heap.size w w4) := (HB.out.alloc HB.out.size _).trans HB4.out; obtain ⟨a4, cap4, rfl, _⟩ := HO4.out.read)
    | (at_builtin; refine wpList_append_bs _ rfl (.tmp 21) (.tmp 25) 27 rfl 40 i0 _ 2 w.heap.size Try.underlying27 hi0 hii.1 hii.2.1 hby rfl (by omega) _ _ _ (HO4.out.alloc _) (some ⟨w4.heap.size, 0, none⟩) 1 1 ([(k0, v0)].flatMap pc) rfl rfl (one_rd w4 (k0, v0)) (by have := HW4.out.size; simp; omega) (by have := HC.out; omega) ?_; intro v5 w5 HO5 HB5; have HW5 : Hid (Below w.heap.size w w5) := (HW4.out.alloc HW4.out.size _).trans HB5.out; obtain ⟨a5, cap5, rfl, _⟩ := HO5.out.read)
    | (at_builtin; refine wpList_append_bs _ rfl (.tmp 30) (.tmp 33) 27 rfl 40 i0 _ 2 w.heap.size Try.underlying27 hi0 hii.1 hii.2.1 hby rfl (by omega) _ _ _ HO5.out (some ⟨g, off + k * 2, none⟩) (n - k) (cap - k) T2 rfl rfl (HS2.out w5 HW5.out) HW5.out.size (by have := HC.out; omega) ?_; intro v6 w6 HO6 HB6; have HW6 : Hid (Below w.heap.size w w6) := HW5.out.trans HB6.out; obtain ⟨a6, cap6, rfl, h6, h7, h8⟩ := HO6.out.read))
  go_ret
  exact ⟨a6, _, cap6, rfl, ⟨(show Rd w6 40 2 a6 _ _ by rw [← HTT.out]; exact h7).toP, h6, h8⟩, HW6⟩
set_option maxRecDepth 100000 in
set_option maxHeartbeats 1000000 in
theorem rput_full1 (w : World) (g off k : Nat) (ps : List Pr) (x : Pr) (h : RdP w (some ⟨g, off, none⟩) (k + 1) ps) (ha : AtP ps x.1 k) (hi : isP ps x.1 k = true) (hn : k ≤ 100000) :
    Calls Try.prog 24 #[.slice (some ⟨g, off, none⟩) (k + 1) (k + 1), .string x.1, .string x.2] w (Rows w (ps.take k ++ [x] ++ ps.drop (k + 1))) := by
  obtain ⟨i0, hi0, hii⟩ := Option.map_eq_some_iff.1 infoP
  simp only [Prod.mk.injEq] at hii
  have hby : i0.bytes ≤ 64 := by rw [hii.2.2]; omega
  have HC : Hid (RdP w (some ⟨g, off, none⟩) (k + 1) ps ∧ AtP ps x.1 k ∧ (k + 1) ≤ 100001) := ⟨h, ha, by omega⟩
  have HS1 : Hid (∀ W, Below w.heap.size w W → Rd W 40 2 (some ⟨g, off, none⟩) k ((ps.take k).flatMap pc)) := fun W hW => by
    have := (h.below hW (Nat.le_refl _)).toRd.take (i := k) (by omega)
    rwa [flat_take] at this
  have HS2 : Hid (∀ W, Below w.heap.size w W → Rd W 40 2 (some ⟨g, off, none⟩) 0 ((ps.drop (k + 1)).flatMap pc)) := fun W hW => by
    rw [List.drop_eq_nil_of_le (by rw [h.1]; exact Nat.le_refl _)]; exact Rd.nil W 40 2 _
  obtain ⟨k0, v0⟩ := x
  have HIS : Hid (isP ps k0 k = true) := hi
  obtain ⟨T1, hT1⟩ : ∃ T1, (ps.take k).flatMap pc = T1 := ⟨_, rfl⟩
  obtain ⟨T2, hT2⟩ : ∃ T2, (ps.drop (k + 1)).flatMap pc = T2 := ⟨_, rfl⟩
  rw [hT1] at HS1
  rw [hT2] at HS2
  have HTT : Hid (T1 ++ [(k0, v0)].flatMap pc ++ T2 = (ps.take k ++ [(k0, v0)] ++ ps.drop (k + 1)).flatMap pc) := by show _ = _; rw [← hT1, ← hT2]; simp
  generalize ps.take k ++ [(k0, v0)] ++ ps.drop (k + 1) = PS at *
  clear hT1 hT2 h ha hi
  have q3 : (0 : Int) ≤ (k : Int) := by omega
  have q4 : (k : Int) ≤ 100000 := by omega
  have q7 : (k : Int) ≤ (k : Int) + 1 := by omega
  have q8 : (0 : Int) ≤ (k : Int) + 1 := by omega
  go_enter Try.func24, Try.ntmps24
  go_wp2_with (first
    | (go_at_call 36; refine (find_is w _ (k + 1) (k + 1) ps k0 k HC.out.1 HC.out.2.1 (by have := HC.out.2.2; omega)).mono ?_; rintro e w3 ⟨rfl, HB⟩; rw [HIS.out])
    | (at_builtin; refine wpList_append_bs _ rfl (.tmp 16) (.tmp 19) 27 rfl 40 i0 _ 2 w.heap.size Try.underlying27 hi0 hii.1 hii.2.1 hby rfl (by omega) (.slice (some ⟨w3.heap.size, 0, none⟩) 0 0) 0 [] (.inl ⟨_, rfl, Rd.nil _ _ _ _, .inr ⟨_, _, rfl⟩⟩) (some ⟨g, off, none⟩) k (k + 1) T1 rfl rfl (HS1.out _ (HB.out.alloc HB.out.size _)) (by have := HB.out.size; simp; omega) (by have := HC.out; omega) ?_; intro v4 w4 HO4 HB4; rw [Nat.zero_add, List.nil_append] at HO4; have HW4 : Hid (Below w.heap.size w w4) := (HB.out.alloc HB.out.size _).trans HB4.out; obtain ⟨a4, cap4, rfl, _⟩ := HO4.out.read)
    | (at_builtin; refine wpList_append_bs _ rfl (.tmp 21) (.tmp 25) 27 rfl 40 i0 _ 2 w.heap.size Try.underlying27 hi0 hii.1 hii.2.1 hby rfl (by omega) _ _ _ (HO4.out.alloc _) (some ⟨w4.heap.size, 0, none⟩) 1 1 ([(k0, v0)].flatMap pc) rfl rfl (one_rd w4 (k0, v0)) (by have := HW4.out.size; simp; omega) (by have := HC.out; omega) ?_; intro v5 w5 HO5 HB5; have HW5 : Hid (Below w.heap.size w w5) := (HW4.out.alloc HW4.out.size _).trans HB5.out; obtain ⟨a5, cap5, rfl, _⟩ := HO5.out.read)
    | (at_builtin; refine wpList_append_bs _ rfl (.tmp 30) (.tmp 33) 27 rfl 40 i0 _ 2 w.heap.size Try.underlying27 hi0 hii.1 hii.2.1 hby rfl (by omega) _ _ _ HO5.out (some ⟨g, off, none⟩) 0 0 T2 rfl rfl (HS2.out w5 HW5.out) HW5.out.size (by have := HC.out; omega) ?_; intro v6 w6 HO6 HB6; have HW6 : Hid (Below w.heap.size w w6) := HW5.out.trans HB6.out; obtain ⟨a6, cap6, rfl, h6, h7, h8⟩ := HO6.out.read))
  go_ret
  exact ⟨a6, _, cap6, rfl, ⟨(show Rd w6 40 2 a6 _ _ by rw [← HTT.out]; exact h7).toP, h6, h8⟩, HW6⟩
set_option maxRecDepth 100000 in
set_option maxHeartbeats 1000000 in
theorem rput_some1 (w : World) (g off n cap k : Nat) (ps : List Pr) (x : Pr) (h : RdP w (some ⟨g, off, none⟩) n ps) (hc : n ≤ cap) (ha : AtP ps x.1 k) (hi : isP ps x.1 k = true) (hjn : (k + 1) ≤ n) (hcj : ¬ cap = (k + 1)) (hn : n ≤ 100000) :
    Calls Try.prog 24 #[.slice (some ⟨g, off, none⟩) n cap, .string x.1, .string x.2] w (Rows w (ps.take k ++ [x] ++ ps.drop (k + 1))) := by
  obtain ⟨i0, hi0, hii⟩ := Option.map_eq_some_iff.1 infoP
  simp only [Prod.mk.injEq] at hii
  have hby : i0.bytes ≤ 64 := by rw [hii.2.2]; omega
  have HC : Hid (RdP w (some ⟨g, off, none⟩) n ps ∧ AtP ps x.1 k ∧ n ≤ 100001) := ⟨h, ha, by omega⟩
  have HS1 : Hid (∀ W, Below w.heap.size w W → Rd W 40 2 (some ⟨g, off, none⟩) k ((ps.take k).flatMap pc)) := fun W hW => by
    have := (h.below hW (Nat.le_refl _)).toRd.take (i := k) (by omega)
    rwa [flat_take] at this
  have HS2 : Hid (∀ W, Below w.heap.size w W → Rd W 40 2 (some ⟨g, off + (k + 1) * 2, none⟩) (n - (k + 1)) ((ps.drop (k + 1)).flatMap pc)) := fun W hW => by
    have := (h.below hW (Nat.le_refl _)).toRd.drop (j := (k + 1)) hjn
    rwa [flat_drop] at this
  obtain ⟨k0, v0⟩ := x
  have HIS : Hid (isP ps k0 k = true) := hi
  obtain ⟨T1, hT1⟩ : ∃ T1, (ps.take k).flatMap pc = T1 := ⟨_, rfl⟩
  obtain ⟨T2, hT2⟩ : ∃ T2, (ps.drop (k + 1)).flatMap pc = T2 := ⟨_, rfl⟩
  rw [hT1] at HS1
  rw [hT2] at HS2
  have HTT : Hid (T1 ++ [(k0, v0)].flatMap pc ++ T2 = (ps.take k ++ [(k0, v0)] ++ ps.drop (k + 1)).flatMap pc) := by show _ = _; rw [← hT1, ← hT2]; simp
  generalize ps.take k ++ [(k0, v0)] ++ ps.drop (k + 1) = PS at *
  clear hT1 hT2 h ha hi
  have q1 : (k : Int) ≤ (n : Int) := by omega
  have q2 : (n : Int) ≤ (cap : Int) := by omega
  have q3 : (0 : Int) ≤ (k : Int) := by omega
  have q4 : (n : Int) ≤ 100000 := by omega
  have q5 : ¬ cap - (k + 1) = 0 := by omega
  have q6 : (k : Int) ≤ (cap : Int) := by omega
  have q7 : (k : Int) + 1 ≤ (n : Int) := by omega
  have q8 : (0 : Int) ≤ (k : Int) + 1 := by omega
  go_enter Try.func24, Try.ntmps24
  go_wp2_with (first
    | (go_at_call 36; refine (find_is w _ n cap ps k0 k HC.out.1 HC.out.2.1 (by have := HC.out.2.2; omega)).mono ?_; rintro e w3 ⟨rfl, HB⟩; rw [HIS.out])
    | (at_builtin; refine wpList_append_bs _ rfl (.tmp 16) (.tmp 19) 27 rfl 40 i0 _ 2 w.heap.size Try.underlying27 hi0 hii.1 hii.2.1 hby rfl (by omega) (.slice (some ⟨w3.heap.size, 0, none⟩) 0 0) 0 [] (.inl ⟨_, rfl, Rd.nil _ _ _ _, .inr ⟨_, _, rfl⟩⟩) (some ⟨g, off, none⟩) k cap T1 rfl rfl (HS1.out _ (HB.out.alloc HB.out.size _)) (by have := HB.out.size; simp; omega) (by have := HC.out; omega) ?_; intro v4 w4 HO4 HB4; rw [Nat.zero_add, List.nil_append] at HO4; have HW4 : Hid (Below w.heap.size w w4) := (HB.out.alloc HB.out.size _).trans HB4.out; obtain ⟨a4, cap4, rfl, _⟩ := HO4.out.read)
    | (at_builtin; refine wpList_append_bs _ rfl (.tmp 21) (.tmp 25) 27 rfl 40 i0 _ 2 w.heap.size Try.underlying27 hi0 hii.1 hii.2.1 hby rfl (by omega) _ _ _ (HO4.out.alloc _) (some ⟨w4.heap.size, 0, none⟩) 1 1 ([(k0, v0)].flatMap pc) rfl rfl (one_rd w4 (k0, v0)) (by have := HW4.out.size; simp; omega) (by have := HC.out; omega) ?_; intro v5 w5 HO5 HB5; have HW5 : Hid (Below w.heap.size w w5) := (HW4.out.alloc HW4.out.size _).trans HB5.out; obtain ⟨a5, cap5, rfl, _⟩ := HO5.out.read)
    | (at_builtin; refine wpList_append_bs _ rfl (.tmp 30) (.tmp 33) 27 rfl 40 i0 _ 2 w.heap.size Try.underlying27 hi0 hii.1 hii.2.1 hby rfl (by omega) _ _ _ HO5.out (some ⟨g, off + (k + 1) * 2, none⟩) (n - (k + 1)) (cap - (k + 1)) T2 rfl rfl (HS2.out w5 HW5.out) HW5.out.size (by have := HC.out; omega) ?_; intro v6 w6 HO6 HB6; have HW6 : Hid (Below w.heap.size w w6) := HW5.out.trans HB6.out; obtain ⟨a6, cap6, rfl, h6, h7, h8⟩ := HO6.out.read))
  have e6 : k + 1 + (n - (k + 1)) = n := by omega
  rw [e6] at h6 h7
  go_ret
  exact ⟨a6, _, cap6, rfl, ⟨(show Rd w6 40 2 a6 _ _ by rw [← HTT.out]; exact h7).toP, h6, h8⟩, HW6⟩
theorem rput_is (w : World) (a : Option Addr) (n cap : Nat) (ps : List Pr) (x : Pr) (h : RdP w a n ps) (hc : Cap a n cap) (hr : Ris ps) (hn : n ≤ 100000) : Calls Try.prog 24 #[.slice a n cap, .string x.1, .string x.2] w (Rows w (insP ps x)) := by
  obtain ⟨k, ha⟩ := find_at ps x.1 (ris_mono hr x.1)
  have hia := ins_at hr ha
  have hkn : k ≤ n := by rw [← h.1]; exact ha.1
  rw [hia]
  cases hi : isP ps x.1 k with
  | false =>
    rw [if_neg (by simp)]
    rcases hc with ⟨hc1, ⟨rfl, rfl⟩ | ⟨g, off, rfl⟩⟩
    · have hn0 : n = 0 := by omega
      subst hn0
      have hk0 : k = 0 := by omega
      subst hk0
      exact rput_none w ps x h ha hi
    · by_cases hcj : cap = k
      · subst hcj
        have : n = cap := by omega
        subst this
        exact rput_full w g off n ps x h ha hi hn
      · exact rput_some w g off n cap k ps x h hc1 ha hi hkn hcj hn
  | true =>
    rw [if_pos rfl]
    obtain ⟨y, hy, _⟩ := eqs_is hr ha hi
    have hkn' : k < n := by rw [← h.1]; exact (List.getElem?_eq_some_iff.1 hy).1
    rcases hc with ⟨hc1, ⟨rfl, rfl⟩ | ⟨g, off, rfl⟩⟩
    · omega
    · by_cases hcj : cap = k + 1
      · subst hcj
        have : n = k + 1 := by omega
        subst this
        exact rput_full1 w g off k ps x h ha hi (by omega)
      · exact rput_some1 w g off n cap k ps x h hc1 ha hi hkn' hcj hn
end Go.Proofs.Ytnagknlfboadkaa.Oct
