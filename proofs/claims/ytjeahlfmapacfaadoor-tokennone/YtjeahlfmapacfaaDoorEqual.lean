/-
  Layer 2 (hash): 'Equal'.
-/
import Derived.Test.YtjeahlfmapacfaaDoorRot
import Derived.Test.YtjeahlfmapacfaaDoorArgs
import Derived.Deep.Draws
namespace Go.Proofs.YtjeahlfmapacfaaDoor.Oct
open Go.RowKit Sha

/-- what the first t bytes differ in -/
def dif (l r : List UInt8) : Nat → UInt8
  | 0 => 0
  | t + 1 => dif l r t ||| (l.getD t 0 ^^^ r.getD t 0)
theorem u8or_zero (x y : UInt8) : x ||| y = 0 ↔ x = 0 ∧ y = 0 := by
  constructor
  · intro h
    have h' := congrArg UInt8.toBitVec h
    simp only [UInt8.toBitVec_or, UInt8.toBitVec_ofNat] at h'
    have h1 := BitVec.or_eq_zero_iff.1 h'
    exact ⟨UInt8.toBitVec_inj.1 h1.1, UInt8.toBitVec_inj.1 h1.2⟩
  · rintro ⟨rfl, rfl⟩; rfl
theorem u8xor_zero (x y : UInt8) : x ^^^ y = 0 ↔ x = y := by
  constructor
  · intro h
    have h' := congrArg UInt8.toBitVec h
    simp only [UInt8.toBitVec_xor, UInt8.toBitVec_ofNat] at h'
    exact UInt8.toBitVec_inj.1 (BitVec.xor_eq_zero_iff.1 h')
  · rintro rfl; exact UInt8.xor_self
theorem dif_zero (l r : List UInt8) : ∀ t, dif l r t = 0 ↔ ∀ i, i < t → l.getD i 0 = r.getD i 0
  | 0 => by simp [dif]
  | t + 1 => by
    unfold dif
    rw [u8or_zero, u8xor_zero, dif_zero l r t]
    constructor
    · rintro ⟨h1, h2⟩ i hi
      rcases Nat.lt_or_ge i t with h | h
      · exact h1 i h
      · rw [show i = t by omega]; exact h2
    · intro h
      exact ⟨fun i hi => h i (by omega), h t (by omega)⟩
theorem dif_all {l r : List UInt8} (h : l.length = r.length) : dif l r l.length = 0 ↔ l = r := by
  rw [dif_zero]
  constructor
  · intro e
    refine List.ext_getElem h fun i h1 h2 => ?_
    have := e i h1
    simpa [h1, h2] using this
  · rintro rfl i _; rfl
theorem lt8 (x : UInt8) : x.toNat < 256 := x.toNat_lt
theorem dif_next (l r : List UInt8) (t : Nat) : bits BinOp.or IntKind.u8 ((dif l r t).toNat : Int) (bits BinOp.xor IntKind.u8 ((l.getD t 0).toNat : Int) ((r.getD t 0).toNat : Int)) = ((dif l r (t + 1)).toNat : Int) := by
  rw [u8_xor_nat _ _ (lt8 _) (lt8 _), ← UInt8.toNat_xor, u8_or_nat _ _ (lt8 _) (lt8 _), ← UInt8.toNat_or]
  rfl

set_option maxHeartbeats 400000 in
theorem equal_is (l r : List UInt8) (a b : Option Addr) (n m cp cq : Nat) (w : World) (hl : In w a n cp l) (hr : In w b m cq r) :
    Calls Tryd.prog 54 #[.slice a n cp, .slice b m cq] w fun e w' => e = .returned (.bool (decide (l = r))) ∧ ∃ k, w' = w.drewN k := by
  have HL : Hid (In w a n cp l) := hl
  have HR : Hid (In w b m cq r) := hr
  have b1 := hl.2.2.1
  have b2 := hr.2.2.1
  have e1 := hl.1
  have e2 := hr.1
  clear hl hr
  by_cases hnm : n = m
  · subst hnm
    have HE : Hid (l.length = n) := e1
    have HF : Hid (r.length = n) := e2
    clear e1 e2 b2
    go_enter Tryd.func54, Tryd.ntmps54
    go_wp2_with fail
    go_loopw [14, 5] (fun i d wr => ∃ t : Nat, i = .int .i64 t ∧ t ≤ n ∧ d = .int .u8 ((dif l r t).toNat : Int) ∧ ∃ k, wr = w.drewN k) (fun i _ _ => n - (intOf i).toNat)
    case atStart => exact ⟨0, rfl, by omega, rfl, 0, rfl⟩
    case round =>
      obtain ⟨t, rfl, ht, rfl, k, rfl⟩ := hrel
      by_cases hlt : t = n
      · subst hlt
        go_wp2
        go_ret
        refine ⟨?_, k, rfl⟩
        congr 2
        have e := dif_all (l := l) (r := r) (by rw [HE.out, HF.out])
        rw [HE.out] at e
        show Value.bool (((dif l r t).toNat : Int) == 0) = _
        congr 1
        rw [Bool.eq_iff_iff, beq_iff_eq, decide_eq_true_iff, ← e]
        constructor
        · intro h
          have h0 : (dif l r t).toNat = 0 := by omega
          exact UInt8.toNat_inj.1 h0
        · intro h; rw [h]; rfl
      · have q1 : (t : Int) < (n : Int) := by omega
        have HT : Hid (t < n) := by show t < n; omega
        obtain ⟨ba, oa, rfl, ha1, ha2⟩ := HL.out.2.2.2.2 (by omega)
        obtain ⟨bb, ob, rfl, hb1, hb2⟩ := HR.out.2.2.2.2 (by omega)
        have c1 : w.cell? ⟨ba, oa + t, none⟩ = some (.int .u8 ((l.getD t 0).toNat : Int)) := ha2 t _ (by rw [List.getD_eq_getElem?_getD, List.getElem?_eq_getElem (by rw [HE.out]; exact HT.out)]; rfl)
        have c2 : w.cell? ⟨bb, ob + t, none⟩ = some (.int .u8 ((r.getD t 0).toNat : Int)) := hb2 t _ (by rw [List.getD_eq_getElem?_getD, List.getElem?_eq_getElem (by rw [HF.out]; exact HT.out)]; rfl)
        obtain ⟨X, hX⟩ : ∃ X, X = ((l.getD t 0).toNat : Int) := ⟨_, rfl⟩
        obtain ⟨Y, hY⟩ : ∃ Y, Y = ((r.getD t 0).toNat : Int) := ⟨_, rfl⟩
        obtain ⟨Z, hZ⟩ : ∃ Z, Z = ((dif l r t).toNat : Int) := ⟨_, rfl⟩
        have HD : Hid _ := dif_next l r t
        rw [← hX, ← hY, ← hZ] at HD
        rw [← hX] at c1
        rw [← hY] at c2
        rw [← hZ]
        clear ha2 hb2 hlt hX hY hZ
        go_wp2
        go_region
        go_wp2
        refine ⟨⟨t + 1, by simp, HT.out, ?_, k + 1, rfl⟩, ?_⟩
        · exact congrArg (Value.int IntKind.u8) HD.out
        · have := HT.out
          show n - (intOf (.int .i64 ((t : Int) + 1))).toNat < n - (intOf (.int .i64 (t : Int))).toNat
          simp only [intOf]
          omega
  · have q : ¬ (n : Int) = (m : Int) := by omega
    have HN : Hid (¬ l = r) := by intro h; apply hnm; rw [← e1, ← e2, h]
    clear hnm e1 e2
    go_enter Tryd.func54, Tryd.ntmps54
    go_wp2
    go_ret
    refine ⟨?_, 0, rfl⟩
    rw [decide_eq_false HN.out]
    rfl
#print axioms equal_is

end Go.Proofs.YtjeahlfmapacfaaDoor.Oct
