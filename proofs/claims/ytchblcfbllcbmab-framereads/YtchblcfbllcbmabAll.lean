/-
  Layer 4 (frame): the closure of 'All': it hands out copies of the frames that the bytes begin with.
-/
import Derived.Test.YtchblcfbllcbmabFrames
import Derived.Test.YtchblcfbllcbmabOver
import Derived.Test.YtchblcfbllcbmabClone
namespace Go.Proofs.Ytchblcfbllcbmab.Oct
open Go.RowKit Go.Shelf
attribute [local go_sem] Oper.semAt_some

/-- what a round is handed: where the frame stands, how many bytes it has, and the bytes' slice -/
structure Handed where
  at_ : Nat
  m : Nat
  a : Option Addr
  c : Nat
def Handed.enc (x : Handed) : Array Value := #[.int .i64 (x.at_ : Int), .slice x.a x.m x.c]
/-- it is the frame that stands at s -/
def Fits (L : List UInt8) (n s : Nat) (x : Handed) : Prop := x.at_ = s ∧ errOf (L.drop s) = 0 ∧ num4 (L.drop s) = x.m ∧ s + x.m + 12 ≤ n
/-- .. and its bytes lie there, in blocks from m₀ on -/
def Lies (L : List UInt8) (n m₀ s : Nat) (x : Handed) (A : World) : Prop := Fits L n s x ∧ In A x.a x.m x.c (bodyOf (L.drop s)) ∧ (0 < x.m → ∃ g, x.a = some ⟨g, 0, none⟩ ∧ m₀ ≤ g)
/-- blocks from m₀ on lie as they lay -/
def Held (m₀ : Nat) (A B : World) : Prop := A.heap.size ≤ B.heap.size ∧ ∀ b, b < A.heap.size → m₀ ≤ b → B.heap[b]? = A.heap[b]?

theorem piece_body {A : World} {b off n cp s m : Nat} {L : List UInt8} (h : In A (some ⟨b, off, none⟩) n cp L) (hs : s + m + 12 ≤ n) (hm : num4 (L.drop s) = m) : In A (some ⟨b, off + s + 8, none⟩) m (cp - s - 8) (bodyOf (L.drop s)) := by
  have e := h.piece (s + 8) (s + 8 + m) (by omega) (by omega)
  rw [show s + 8 + m - (s + 8) = m by omega, ← Nat.add_assoc, ← Nat.sub_sub] at e
  have e2 : (L.take (s + 8 + m)).drop (s + 8) = bodyOf (L.drop s) := by
    unfold bodyOf
    rw [hm, List.take_drop, List.drop_drop, show s + (m + 8) = s + 8 + m by omega]
  rw [e2] at e
  exact e

/-- what stands between two rounds of the loop within 'All' -/
def AllInv (J : Nat → World → Prop) (m₀ : Nat) (yv sv : Value) (s : Nat) (A : World) : Prop := J s A ∧ A.heap[m₀]? = some (.cells #[yv] 44) ∧ A.heap[m₀ + 1]? = some (.cells #[sv] 22)
theorem cell_one {A : World} {b : Nat} {v : Value} {t : TypeId} (h : A.heap[b]? = some (.cells #[v] t)) : A.cell? ⟨b, 0, none⟩ = some v := by
  rw [cell_of_row A b 0 _ t (0, 0) h]
  rfl

theorem YieldAt.deep {m : Nat} (m' : Nat) {P : Program} {l : Nat} {args : Array Value} {W : World} {R : Ending → World → Prop} (h : YieldAt Fence.wide m P l args W R) : YieldAt Fence.wide m' P l args W R := by
  obtain ⟨fn, tmps, asg, bdy, hy, h1, h2⟩ := h
  exact ⟨fn, tmps, asg, bdy, hy, h1, fun c cs _ => h2 c cs (room_wide _)⟩
theorem below_drewN (B : Nat) (A : World) (k : Nat) : Below B A (A.drewN k) := ⟨rfl, rfl, rfl, Nat.le_refl _, fun _ _ => rfl⟩

theorem held_keep {m₀ : Nat} {A B C : World} (h : Below A.heap.size A B) (hh : Held m₀ B C) {b : Nat} (h1 : b < A.heap.size) (h2 : m₀ ≤ b) : C.heap[b]? = A.heap[b]? :=
  (hh.2 b (Nat.lt_of_lt_of_le h1 h.size) h2).trans (h.block b h1)

/-- what the loop within 'All' is handed -/
structure Piece where
  at_ : Nat
  m : Nat
  b : Nat
  off : Nat

set_option maxRecDepth 100000 in
set_option maxHeartbeats 2000000 in
theorem all1_in (d l1 Bo : Nat) (a : Option Addr) (n cp : Nat) (L : List UInt8) (hn : n ≤ 1000000) (m₀ : Nat) (J : Nat → World → Prop)
    (hJb : ∀ s A B, J s A → Below m₀ A B → J s B) (hJ : ∀ s A, J s A → A.cell? ⟨Bo, 0, none⟩ = some (.slice a n cp) ∧ In A a n cp L ∧ m₀ ≤ A.heap.size)
    (hY : ∀ s x A, J s A → Lies L n m₀ s x A → YieldAt Fence.wide 0 Try.prog l1 x.enc A fun e B => e = .returned (.bool true) ∧ J (s + x.m + 12) B ∧ Held m₀ A B)
    (W : World) (hW : W.heap.size = m₀) (h0 : J 0 W) :
    CallsIn Fence.wide d Try.prog 17 #[.func (.yield l1) #[] #[], .pointer (some ⟨Bo, 0, none⟩)] W fun e B => (∃ v, e = .returned v) ∧ ∃ s, J s B ∧ s ≤ n ∧ errOf (L.drop s) ≠ 0 := by
  refine callsIn_of_wp_marks Try.func17 rfl trivial ?_ rfl
  simp only [Try.ntmps17, List.size_toArray, List.length_cons, List.length_nil, Nat.reduceAdd, Nat.reduceSub, Array.replicate_succ, Array.replicate_zero, List.push_toArray, List.append_toArray, List.nil_append, List.cons_append]
  have hJ0 := hJb 0 W (W.alloc (.cells #[.func (.yield l1) #[] #[]] 44)) h0 ((Below.refl _ W).alloc (by omega) _)
  have hc0 := (hJ 0 _ hJ0).1
  gi_wp2_with (refine ⟨trivial, (fun h => by cases h), ?_⟩; gi_at_call 18; refine (callsIn_wide.2 (frames_is a n cp _)).mono ?_; rintro e w1 ⟨rfl, rfl⟩)
  obtain ⟨W2, hW2⟩ : ∃ W2, W2 = (W.alloc (.cells #[.func (.yield l1) #[] #[]] 44)).alloc (.cells #[.slice a n cp] 22) := ⟨_, rfl⟩
  have hS2 : W2.heap.size = m₀ + 2 := by rw [hW2]; simp; omega
  have hB2 : Below m₀ W W2 := by rw [hW2]; exact ((Below.refl _ W).alloc (by omega) _).alloc (by simp; omega) _
  have hy2 : W2.heap[m₀]? = some (.cells #[.func (.yield l1) #[] #[]] 44) := by
    rw [hW2, ← hW]
    exact (Below.heap_alloc _ _ _ (by simp)).trans (World.alloc_heap_new W _)
  have hs2 : W2.heap[m₀ + 1]? = some (.cells #[.slice a n cp] 22) := by
    have e := World.alloc_heap_new (W.alloc (.cells #[.func (.yield l1) #[] #[]] 44)) (.cells #[.slice a n cp] 22)
    rw [World.size_alloc, hW, ← hW2] at e
    exact e
  have hJ2 : J 0 W2 := hJb 0 W W2 h0 hB2
  rw [← hW2]
  clear hW2 hJ0 hc0
  refine rangeOver (gf := 22) (lb := #[.pointer (some ⟨m₀ + 1, 0, none⟩)]) rfl (enters_of Try.func22 (by kernel_rfl) rfl) (fun x : Piece => #[.int .i64 (x.at_ : Int), .slice (some ⟨x.b, x.off + x.at_ + 8, none⟩) x.m (cp - x.at_ - 8)]) (fun _ => rfl) (fun s x => s + x.m + 12)
    (fun s x _ => x.at_ = s ∧ a = some ⟨x.b, x.off, none⟩ ∧ errOf (L.drop s) = 0 ∧ num4 (L.drop s) = x.m ∧ s + x.m + 12 ≤ n) (fun _ _ => True) (fun s => s ≤ n ∧ errOf (L.drop s) ≠ 0)
    (AllInv J m₀ (.func (.yield l1) #[] #[]) (.slice a n cp)) ?_ (fun _ _ _ _ h => h) (fun _ _ _ _ h => h) ⟨hJ2, hy2, hs2⟩
    (fun x => { tmps := #[.func (.yield l1) #[] #[], .pointer (some ⟨Bo, 0, none⟩), .pointer (some ⟨m₀, 0, none⟩), .int .i64 (x.at_ : Int), .slice (some ⟨x.b, x.off + x.at_ + 8, none⟩) x.m (cp - x.at_ - 8), .slice a n cp, .func (.func 22) #[] #[.pointer (some ⟨m₀ + 1, 0, none⟩)], .int .i64 (x.at_ : Int), .slice (some ⟨x.b, x.off + x.at_ + 8, none⟩) x.m (cp - x.at_ - 8), undef, undef, undef, undef, undef, undef], defers := [] }) ?assign ?body ?iter ?done
  · rintro s A B ⟨h1, h2, h3⟩ hb
    rw [hS2] at hb
    exact ⟨hJb s A B h1 (hb.mono (by omega)), (hb.block _ (by omega)).trans h2, (hb.block _ (by omega)).trans h3⟩
  case assign =>
    intro x A K hK
    gi_wp2
    exact hK
  case body =>
    rintro s ⟨at_, m, b, off⟩ A ⟨hJs, hyA, hsA⟩ ⟨hat, rfl, he, hm, hle⟩ hlt
    dsimp only at hat he hm hle ⊢
    subst hat
    have HP : Hid (In A (some ⟨b, off + at_ + 8, none⟩) m (cp - at_ - 8) (bodyOf (L.drop at_))) := piece_body (hJ at_ A hJs).2.1 hle hm
    have HFIT : Hid (errOf (L.drop at_) = 0 ∧ num4 (L.drop at_) = m ∧ at_ + m + 12 ≤ n) := ⟨he, hm, hle⟩
    have HJS : Hid (J at_ A) := hJs
    have HYA : Hid (A.heap[m₀]? = some (.cells #[.func (.yield l1) #[] #[]] 44)) := hyA
    have HSA : Hid (A.heap[m₀ + 1]? = some (.cells #[.slice (some ⟨b, off, none⟩) n cp] 22)) := hsA
    have HM : Hid (m ≤ 1000000) := by show m ≤ 1000000; omega
    have HMA : Hid (m₀ ≤ A.heap.size) := (hJ at_ A hJs).2.2
    have hcA := cell_one hyA
    have hmx : Try.prog.follows .mixedOrders = true := by kernel_rfl
    have HLT : Hid (W2.heap.size + 1 < A.heap.size) := hlt
    clear he hm hle hJs hyA hsA hlt
    gi_wp2
    gi_region_with_o (first
      | (refine ⟨trivial, (fun h => by cases h), ?_⟩; gi_at_call 14; refine (CallsIn.inRound _ (callsIn_wide.2 (clone_is (bodyOf (L.drop at_)) _ m _ A.drew (show In A.drew _ _ _ _ from HP.out) HM.out))).mono ?_; rintro e B ⟨a', c', rfl, HI', HB', HG'⟩; have HB2 : Hid (Below A.heap.size A B) := ⟨HB'.out.os, HB'.out.tape, HB'.out.output, HB'.out.size, HB'.out.block⟩; obtain ⟨fn, tmps, asg, bdy, hy, hR⟩ := YieldAt.deep (d - 1 - 1 - 1) (hY at_ ⟨at_, m, a', c'⟩ B (hJb _ _ _ HJS.out (HB2.out.mono HMA.out)) ⟨⟨rfl, HFIT.out⟩, HI'.out, fun hp => by obtain ⟨g, e1, e2⟩ := HG'.out hp; exact ⟨g, e1, Nat.le_trans HMA.out e2⟩⟩); dsimp only [Handed.enc] at hy; have hcB := cell_one ((HB2.out.block m₀ (by have := HLT.out; omega)).trans HYA.out))
      | (refine ⟨(fun h => by cases h), hR.mono ?_⟩; rintro e C ⟨rfl, hJ3, hH3⟩))
    all_goals gi_wp2
    all_goals exact ⟨⟨hJ3, (held_keep HB2.out hH3 (by have := HLT.out; omega) (by omega)).trans HYA.out, (held_keep HB2.out hH3 (by have := HLT.out; omega) (by omega)).trans HSA.out⟩, held_keep HB2.out hH3 (by have := HLT.out; omega) (by omega), held_keep HB2.out hH3 (by have := HLT.out; omega) (by omega)⟩
  case iter =>
    intro J' W' hS' hB' hJ'b hJ'I hY' hJ'0
    exact frames1_in (d - 1) (W2.heap.size + 1) (m₀ + 1) a n cp L hn J' (fun s A k hj => hJ'b s A _ hj (below_drewN _ A k))
      (fun s A hj => ⟨cell_one (hJ'I s A hj).1.2.2, (hJ s A (hJ'I s A hj).1.1).2.1⟩)
      (fun s m b off A hj ha he hm hle => (hY' s ⟨s, m, b, off⟩ A hj ⟨rfl, ha, he, hm, hle⟩).mono (fun e B h => ⟨h.1, h.2.1⟩)) W' hJ'0
  case done =>
    rintro s A ⟨hJs, -, -⟩ ⟨h1, h2⟩ hK
    gi_wp2
    refine ⟨by simp, .inl ⟨_, _, rfl, run_takeDeferred hK, ?_⟩⟩
    exact ⟨_, results_none rfl _ _ _, ⟨_, rfl⟩, s, hJb _ _ _ hJs (below_putObj _ A _ _ (by omega)), h1, h2⟩
#print axioms all1_in
end Go.Proofs.Ytchblcfbllcbmab.Oct
