/-
  Layer 12 (deps): the order of hashes; the comparison that the sort is handed.
-/
import Derived.Test.YtijkpkcopjkhkaaCmpReg
namespace Go.Proofs.Ytijkpkcopjkhkaa.Oct
open Go.RowKit Go.Shelf Go.Lib Go.Sort

theorem u8_tri (a b : UInt8) : a < b ∨ a = b ∨ b < a := by
  rw [UInt8.lt_iff_toNat_lt, UInt8.lt_iff_toNat_lt, ← UInt8.toNat_inj]; omega
theorem u8_not {a b : UInt8} (h : a < b) : ¬ b < a := by rw [UInt8.lt_iff_toNat_lt] at *; omega
theorem u8_irr (a : UInt8) : ¬ a < a := by rw [UInt8.lt_iff_toNat_lt]; omega
theorem u8_tr {a b c : UInt8} (h : a < b) (k : b < c) : a < c := by rw [UInt8.lt_iff_toNat_lt] at *; omega
theorem cb_self : ∀ a : Hs, compareBytes a a = 0
  | [] => rfl
  | c :: a => by unfold compareBytes; rw [if_neg (u8_irr c), if_neg (u8_irr c)]; exact cb_self a
theorem cb_swap : ∀ a b : Hs, compareBytes b a = - compareBytes a b
  | [], [] => rfl
  | [], _ :: _ => rfl
  | _ :: _, [] => rfl
  | x :: a, y :: b => by
    unfold compareBytes
    rcases u8_tri x y with h | rfl | h
    · rw [if_neg (u8_not h), if_pos h, if_pos h]; rfl
    · simp only [u8_irr x, if_false]; exact cb_swap a b
    · rw [if_pos h, if_neg (u8_not h), if_pos h]
theorem cb_zero : ∀ a b : Hs, compareBytes a b = 0 → a = b
  | [], [], _ => rfl
  | [], _ :: _, h => by simp [compareBytes] at h
  | _ :: _, [], h => by simp [compareBytes] at h
  | x :: a, y :: b, h => by
    unfold compareBytes at h
    rcases u8_tri x y with h1 | rfl | h1
    · rw [if_pos h1] at h; omega
    · rw [if_neg (u8_irr x), if_neg (u8_irr x)] at h; rw [cb_zero a b h]
    · rw [if_neg (u8_not h1), if_pos h1] at h; omega
theorem cb_trans : ∀ a b c : Hs, compareBytes a b < 0 → compareBytes b c < 0 → compareBytes a c < 0
  | [], [], _, h, _ => by simp [compareBytes] at h
  | _ :: _, [], _, h, _ => by simp [compareBytes] at h
  | [], _ :: _, [], _, h => by simp [compareBytes] at h
  | [], _ :: _, _ :: _, _, _ => by simp [compareBytes]
  | _ :: _, _ :: _, [], _, h => by simp [compareBytes] at h
  | x :: a, y :: b, z :: c, h, k => by
    unfold compareBytes at h k ⊢
    rcases u8_tri x y with h1 | rfl | h1
    · rcases u8_tri y z with k1 | rfl | k1
      · rw [if_pos (u8_tr h1 k1)]; omega
      · rw [if_pos h1]; omega
      · rw [if_neg (u8_not k1), if_pos k1] at k; omega
    · rcases u8_tri x z with k1 | rfl | k1
      · rw [if_pos k1]; omega
      · rw [if_neg (u8_irr x), if_neg (u8_irr x)] at h k ⊢
        exact cb_trans a b c h k
      · rw [if_neg (u8_not k1), if_pos k1] at k; omega
    · rw [if_neg (u8_not h1), if_pos h1] at h; omega
/-- one hash stands ahead of another -/
def LtH (a b : Hs) : Prop := compareBytes a b < 0
instance (a b : Hs) : Decidable (LtH a b) := inferInstanceAs (Decidable (compareBytes a b < 0))
theorem LtH.irr (a : Hs) : ¬ LtH a a := by unfold LtH; rw [cb_self]; omega
theorem LtH.tr {a b c : Hs} (h : LtH a b) (k : LtH b c) : LtH a c := cb_trans a b c h k
theorem LtH.tri (a b : Hs) : LtH a b ∨ a = b ∨ LtH b a := by
  unfold LtH
  have h := cb_swap a b
  by_cases h0 : compareBytes a b = 0
  · exact .inr (.inl (cb_zero a b h0))
  · omega
theorem LtH.asymm {a b : Hs} (h : LtH a b) : ¬ LtH b a := fun k => LtH.irr a (h.tr k)

/-- hashes of 32 bytes -/
abbrev H32 := { h : Hs // h.length = 32 }
instance : Inhabited H32 := ⟨⟨List.replicate 32 0, by simp⟩⟩
def enc32 (x : H32) : List Value := U x.1
def cf32 (x y : H32) : Int := compareBytes x.1 y.1
theorem lt32 (x y : H32) : ltOf cf32 x y = decide (LtH x.1 y.1) := rfl
theorem swo32 : SWO (ltOf cf32) where
  irrefl x := by rw [lt32]; simpa using LtH.irr x.1
  trans x y z h1 h2 := by rw [lt32] at *; simp at *; exact h1.tr h2
  ntrans x y z h1 h2 := by
    rw [lt32] at *
    simp only [decide_eq_false_iff_not] at *
    intro h
    rcases LtH.tri x.1 y.1 with h3 | h3 | h3
    · exact h1 h3
    · rw [h3] at h; exact h2 h
    · exact h2 (h3.tr h)
theorem total32 (x y : H32) (h1 : ltOf cf32 x y = false) (h2 : ltOf cf32 y x = false) : x = y := by
  rw [lt32] at *
  simp only [decide_eq_false_iff_not] at *
  rcases LtH.tri x.1 y.1 with h3 | h3 | h3
  · exact absurd h3 h1
  · exact Subtype.ext h3
  · exact absurd h3 h2
#print axioms total32

set_option maxRecDepth 100000 in
set_option maxHeartbeats 1000000 in
theorem closure40 (x y : Hs) (hx : x.length = 32) (hy : y.length = 32) (W : World) : Calls Try.prog 40 #[.agg (U x).toArray, .agg (U y).toArray] W fun e w' => e = .returned (.int .i64 (compareBytes x y)) ∧ ∃ q os', w' = grow (W.drewN q) os' := by
  have HX : Hid (((W.alloc (.cells (U x).toArray 34)).alloc (.cells (U y).toArray 34)).rangeAt W.heap.size 0 (U x) ∧ ((W.alloc (.cells (U x).toArray 34)).alloc (.cells (U y).toArray 34)).rangeAt (W.heap.size + 1) 0 (U y)) := by
    constructor
    · refine rangeAt_same (new34 W x) (Below.heap_alloc _ _ _ (by simp))
    · have := new34 (W.alloc (.cells (U x).toArray 34)) y
      rw [World.size_alloc] at this
      exact this
  have H41 : Hid (∀ V : World, V.rangeAt W.heap.size 0 (U x) → V.rangeAt (W.heap.size + 1) 0 (U y) → Calls Try.prog 41 #[.slice (some ⟨W.heap.size, 0, none⟩) 32 32, .slice (some ⟨W.heap.size + 1, 0, none⟩) 32 32] V fun e w' => e = .returned (.int .i64 (compareBytes x y)) ∧ V = w') := fun V h1 h2 => cmp41 V _ _ _ _ _ _ x y h1 h2 hx hy
  generalize compareBytes x y = r at *
  go_enter Try.func40, Try.ntmps40
  go_wp2
  refine cmp_region H41.out HX.out ?_
  go_wp2
  go_ret
  refine ⟨rfl, 1, #[.cells (U x).toArray 34] ++ #[.cells (U y).toArray 34], ?_⟩
  rw [alloc_eq_grow, alloc_eq_grow, grow_grow]
  rfl
theorem cmpLays40 (blk off size : Nat) (w : World) : CmpLays Try.prog 40 #[] enc32 32 cf32 blk off size w :=
  fun _ _ _ _ x y => closure40 x.1 y.1 x.2 y.2 _
#print axioms cmpLays40
end Go.Proofs.Ytijkpkcopjkhkaa.Oct
