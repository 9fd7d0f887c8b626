/-
  Layer 4 (frame): the closure of 'All', where a round may write the bytes that it was handed: they are a row of the call's own.
-/
import Derived.Test.YtchblcfbllcbmabAllX
namespace Go.Proofs.Ytchblcfbllcbmab.Oct
open Go.RowKit Go.Shelf
attribute [local go_sem] Oper.semAt_some

/-- 'slices.Clone' of bytes -/
theorem clone_own (l : List UInt8) (a : Option Addr) (n cp : Nat) (w : World) (hl : In w a n cp l) (hn : n ≤ 1000000) :
    Calls Try.prog 14 #[.slice a n cp] w fun e w' => ∃ a' c, e = .returned (.slice a' n c) ∧ Hid (Own 5 w.heap.size w' (.slice a' n c) l) ∧ Hid (Below w.heap.size w w') := by
  cases a with
  | none =>
    have h1 := hl.2.2.2.1 rfl
    have h2 := hl.2.1
    have h3 := hl.1
    obtain rfl : cp = 0 := h1
    obtain rfl : n = 0 := by omega
    obtain rfl : l = [] := List.eq_nil_of_length_eq_zero h3
    refine (clone_nil w).mono ?_
    rintro e w' ⟨rfl, rfl⟩
    exact ⟨none, 0, rfl, World.ownsRow_nil _ _ _ _, Below.refl _ _⟩
  | some ad =>
    obtain ⟨i0, hi, hz0, hz1, hz2⟩ := info_parts info5
    have HL : Hid (In w (some ad) n cp l) := hl
    have HLL : Hid (l.length = n) := hl.1
    have HN : Hid (n ≤ 1000000) := hn
    have h2 : ∀ W, (Op.equal 22 (.slice (some ad) n cp) (.slice none 0 0)).run Try.prog W = .ok false W := fun W => run_equalIn_slice_nil W 9999 22 5 (some ad) n cp Try.underlying22
    have h3 : ∀ W, (binOp .eql 22 (.slice (some ad) n cp) (.slice none 0 0)).run Try.prog W = .ok (.bool false) W := by intro W; simp [binOp, h2]
    have H0 : Hid ((w.alloc (.cells #[] 5)).ownsRow w.heap.size 5 1 (.slice (some ⟨w.heap.size, 0, none⟩) 0 0) 0 (U [])) := World.ownsRow_made w #[] 0 (Nat.le_refl _) (by unfold maxLen; omega) rfl
    have HB0 : Hid (Below w.heap.size w (w.alloc (.cells #[] 5))) := (Below.refl _ _).alloc (Nat.le_refl _) _
    clear h2 hl hn
    go_enter Try.func14, Try.ntmps14
    go_wp2_with (at_builtin; refine wpList_append_in _ rfl (.tmp 5) (.tmp 6) 22 rfl w.heap.size 5 i0 Try.underlying22 hi hz0 hz1 hz2 _ [] 0 rfl rfl H0.out (some ad) n cp l rfl (HL.out.below HB0.out) (by have := HN.out; omega) HB0.out.size ?_; intro v1 w1 ho1 hg1)
    go_ret
    have HB1 : Below w.heap.size w w1 := HB0.out.grown hg1 HB0.out.size (by intro b hb; exact (H0.out.lt b hb).1)
    obtain ⟨ag, cg, hv1, -, -⟩ := own_in ho1 (by simp only [List.nil_append, HLL.out]; have := HN.out; omega)
    simp only [List.nil_append, HLL.out] at hv1
    subst hv1
    exact ⟨ag, cg, rfl, ho1, HB1⟩

/-- it is the frame that stands at s, and its bytes are a row of the call's own, in a block from m₀ on -/
def LiesO (L : List UInt8) (n m₀ s : Nat) (x : Handed) (A : World) : Prop := Fits L n s x ∧ Own 5 m₀ A (.slice x.a x.m x.c) (bodyOf (L.drop s))
theorem own_base {e : TypeId} {B m₀ : Nat} {w : World} {v : Value} {l : List UInt8} (h : Own e B w v l) (hb : m₀ ≤ B) : Own e m₀ w v l := by
  obtain ⟨k1, k2⟩ := h
  refine ⟨k1, ?_⟩
  rcases k2 with k2 | ⟨g, c, cur, e1, e2, r⟩
  · exact .inl k2
  · exact .inr ⟨g, c, cur, e1, Nat.le_trans hb e2, r⟩
theorem own_far {B m c : Nat} {w : World} {a : Option Addr} {l : List UInt8} (hm : l.length = m) (h : Own 5 B w (.slice a m c) l) (hb : m ≤ 1000000) : 0 < m → ∃ g, a = some ⟨g, 0, none⟩ ∧ B ≤ g := by
  intro hp
  obtain ⟨a2, c2, e2, -, h3⟩ := own_in h (by omega)
  obtain ⟨g, e, h4, -⟩ := h3 (by omega)
  rw [hm] at e2
  cases e2
  exact ⟨g, e, h4⟩

set_option maxRecDepth 100000 in
set_option maxHeartbeats 2000000 in
theorem all1_inO (d l1 Bo : Nat) (a : Option Addr) (n cp : Nat) (L : List UInt8) (hn : n ≤ 1000000) (m₀ : Nat) (J : Nat → World → Prop)
    (hJb : ∀ s A B, J s A → Below m₀ A B → J s B) (hJ : ∀ s A, J s A → A.cell? ⟨Bo, 0, none⟩ = some (.slice a n cp) ∧ In A a n cp L ∧ m₀ ≤ A.heap.size)
    (hY : ∀ s x A, J s A → LiesO L n m₀ s x A → YieldAt Fence.wide 0 Try.prog l1 x.enc A fun e B => e = .returned (.bool true) ∧ J (s + x.m + 12) B ∧ HeldX m₀ x A B)
    (W : World) (hW : W.heap.size = m₀) (h0 : J 0 W) :
    CallsIn Fence.wide d Try.prog 17 #[.func (.yield l1) #[] #[], .pointer (some ⟨Bo, 0, none⟩)] W fun e B => (∃ v, e = .returned v) ∧ ∃ s, J s B ∧ s ≤ n ∧ errOf (L.drop s) ≠ 0 := by
  refine callsIn_of_wp_marks Try.func17 rfl trivial ?_ rfl
  simp only [Try.ntmps17, List.size_toArray, List.length_cons, List.length_nil, Nat.reduceAdd, Nat.reduceSub, Array.replicate_succ, Array.replicate_zero, List.push_toArray, List.append_toArray, List.nil_append, List.cons_append]
  have hJ0 := hJb 0 W (W.alloc (.cells #[.func (.yield l1) #[] #[]] 44)) h0 ((Below.refl _ W).alloc (by omega) _)
  have hc0 := (hJ 0 _ hJ0).1
  gi_wp2_with (refine ⟨trivial, (fun h => by cases h), ?_⟩; gi_at_call 18; refine (callsIn_wide.2 (frames_is a n cp _)).mono ?_; rintro e w1 ⟨rfl, rfl⟩)
  obtain ⟨W2, hW2⟩ : ∃ W2, W2 = (W.alloc (.cells #[.func (.yield l1) #[] #[]] 44)).alloc (.cells #[.slice a n cp] 22) := ⟨_, rfl⟩
  have hS2 : W2.heap.size = m₀ + 2 := by rw [hW2]; simp; omega
  have hB2 : Below m₀ W W2 := by rw [hW2]; exact ((Below.refl _ W).alloc (by omega) _).alloc (by simp; omega) _
  have hy2 : W2.heap[m₀]? = some (.cells #[.func (.yield l1) #[] #[]] 44) := by
    rw [hW2, ← hW]
    exact (Below.heap_alloc _ _ _ (by simp)).trans (World.alloc_heap_new W _)
  have hs2 : W2.heap[m₀ + 1]? = some (.cells #[.slice a n cp] 22) := by
    have e := World.alloc_heap_new (W.alloc (.cells #[.func (.yield l1) #[] #[]] 44)) (.cells #[.slice a n cp] 22)
    rw [World.size_alloc, hW, ← hW2] at e
    exact e
  have hJ2 : J 0 W2 := hJb 0 W W2 h0 hB2
  rw [← hW2]
  clear hW2 hJ0 hc0
  refine rangeOver (gf := 22) (lb := #[.pointer (some ⟨m₀ + 1, 0, none⟩)]) rfl (enters_of Try.func22 (by kernel_rfl) rfl) (fun x : Piece => #[.int .i64 (x.at_ : Int), .slice (some ⟨x.b, x.off + x.at_ + 8, none⟩) x.m (cp - x.at_ - 8)]) (fun _ => rfl) (fun s x => s + x.m + 12)
    (fun s x _ => x.at_ = s ∧ a = some ⟨x.b, x.off, none⟩ ∧ errOf (L.drop s) = 0 ∧ num4 (L.drop s) = x.m ∧ s + x.m + 12 ≤ n) (fun _ _ => True) (fun s => s ≤ n ∧ errOf (L.drop s) ≠ 0)
    (AllInv J m₀ (.func (.yield l1) #[] #[]) (.slice a n cp)) ?_ (fun _ _ _ _ h => h) (fun _ _ _ _ h => h) ⟨hJ2, hy2, hs2⟩
    (fun x => { tmps := #[.func (.yield l1) #[] #[], .pointer (some ⟨Bo, 0, none⟩), .pointer (some ⟨m₀, 0, none⟩), .int .i64 (x.at_ : Int), .slice (some ⟨x.b, x.off + x.at_ + 8, none⟩) x.m (cp - x.at_ - 8), .slice a n cp, .func (.func 22) #[] #[.pointer (some ⟨m₀ + 1, 0, none⟩)], .int .i64 (x.at_ : Int), .slice (some ⟨x.b, x.off + x.at_ + 8, none⟩) x.m (cp - x.at_ - 8), undef, undef, undef, undef, undef, undef], defers := [] }) ?assign ?body ?iter ?done
  · rintro s A B ⟨h1, h2, h3⟩ hb
    rw [hS2] at hb
    exact ⟨hJb s A B h1 (hb.mono (by omega)), (hb.block _ (by omega)).trans h2, (hb.block _ (by omega)).trans h3⟩
  case assign =>
    intro x A K hK
    gi_wp2
    exact hK
  case body =>
    rintro s ⟨at_, m, b, off⟩ A ⟨hJs, hyA, hsA⟩ ⟨hat, rfl, he, hm, hle⟩ hlt
    dsimp only at hat he hm hle ⊢
    subst hat
    have HP : Hid (In A (some ⟨b, off + at_ + 8, none⟩) m (cp - at_ - 8) (bodyOf (L.drop at_))) := piece_body (hJ at_ A hJs).2.1 hle hm
    have HFIT : Hid (errOf (L.drop at_) = 0 ∧ num4 (L.drop at_) = m ∧ at_ + m + 12 ≤ n) := ⟨he, hm, hle⟩
    have HJS : Hid (J at_ A) := hJs
    have HYA : Hid (A.heap[m₀]? = some (.cells #[.func (.yield l1) #[] #[]] 44)) := hyA
    have HSA : Hid (A.heap[m₀ + 1]? = some (.cells #[.slice (some ⟨b, off, none⟩) n cp] 22)) := hsA
    have HM : Hid (m ≤ 1000000) := by show m ≤ 1000000; omega
    have HMA : Hid (m₀ ≤ A.heap.size) := (hJ at_ A hJs).2.2
    have hcA := cell_one hyA
    have hmx : Try.prog.follows .mixedOrders = true := by kernel_rfl
    have HLT : Hid (W2.heap.size + 1 < A.heap.size) := hlt
    clear he hm hle hJs hyA hsA hlt
    gi_wp2
    gi_region_with_o (first
      | (refine ⟨trivial, (fun h => by cases h), ?_⟩; gi_at_call 14; refine (CallsIn.inRound _ (callsIn_wide.2 (clone_own (bodyOf (L.drop at_)) _ m _ A.drew (show In A.drew _ _ _ _ from HP.out) HM.out))).mono ?_; rintro e B ⟨a', c', rfl, HO', HB'⟩; have HG' : Hid (0 < m → ∃ g, a' = some ⟨g, 0, none⟩ ∧ A.heap.size ≤ g) := own_far (by rw [bodyOf_length HFIT.out.1]; exact HFIT.out.2.1) HO'.out HM.out; have HB2 : Hid (Below A.heap.size A B) := ⟨HB'.out.os, HB'.out.tape, HB'.out.output, HB'.out.size, HB'.out.block⟩; obtain ⟨fn, tmps, asg, bdy, hy, hR⟩ := YieldAt.deep (d - 1 - 1 - 1) (hY at_ ⟨at_, m, a', c'⟩ B (hJb _ _ _ HJS.out (HB2.out.mono HMA.out)) ⟨⟨rfl, HFIT.out⟩, own_base HO'.out HMA.out⟩); dsimp only [Handed.enc] at hy; have hcB := cell_one ((HB2.out.block m₀ (by have := HLT.out; omega)).trans HYA.out))
      | (refine ⟨(fun h => by cases h), hR.mono ?_⟩; rintro e C ⟨rfl, hJ3, hH3⟩; have HGG : Hid (0 < m → ∃ g, a' = some ⟨g, 0, none⟩ ∧ A.heap.size ≤ g) := HG'))
    all_goals gi_wp2
    all_goals exact ⟨⟨hJ3, (held_keepX HB2.out HGG.out hH3 (by have := HLT.out; omega) (by omega)).trans HYA.out, (held_keepX HB2.out HGG.out hH3 (by have := HLT.out; omega) (by omega)).trans HSA.out⟩, held_keepX HB2.out HGG.out hH3 (by have := HLT.out; omega) (by omega), held_keepX HB2.out HGG.out hH3 (by have := HLT.out; omega) (by omega)⟩
  case iter =>
    intro J' W' hS' hB' hJ'b hJ'I hY' hJ'0
    exact frames1_in (d - 1) (W2.heap.size + 1) (m₀ + 1) a n cp L hn J' (fun s A k hj => hJ'b s A _ hj (below_drewN _ A k))
      (fun s A hj => ⟨cell_one (hJ'I s A hj).1.2.2, (hJ s A (hJ'I s A hj).1.1).2.1⟩)
      (fun s m b off A hj ha he hm hle => (hY' s ⟨s, m, b, off⟩ A hj ⟨rfl, ha, he, hm, hle⟩).mono (fun e B h => ⟨h.1, h.2.1⟩)) W' hJ'0
  case done =>
    rintro s A ⟨hJs, -, -⟩ ⟨h1, h2⟩ hK
    gi_wp2
    refine ⟨by simp, .inl ⟨_, _, rfl, run_takeDeferred hK, ?_⟩⟩
    exact ⟨_, results_none rfl _ _ _, ⟨_, rfl⟩, s, hJb _ _ _ hJs (below_putObj _ A _ _ (by omega)), h1, h2⟩
#print axioms all1_inO
end Go.Proofs.Ytchblcfbllcbmab.Oct
