/-
  Layer 2 (hash): the reference's Hex.
-/
import Derived.Test.YtjeahlfmapacfaaDoorHex
import Derived.Deep.Draws
namespace Go.Proofs.YtjeahlfmapacfaaDoor.Oct
open Go.RowKit Sha

theorem digits_cut (A : Nat) (h : A < 16) : (⟨#[48, 49, 50, 51, 52, 53, 54, 55, 56, 57, 97, 98, 99, 100, 101, 102]⟩ : ByteArray).extract A (A + 1) = ⟨#[digits.getD A 0]⟩ := by
  have : ∀ A : Fin 16, ((⟨#[48, 49, 50, 51, 52, 53, 54, 55, 56, 57, 97, 98, 99, 100, 101, 102]⟩ : ByteArray).extract A.val (A.val + 1)).data = #[digits.getD A.val 0] := by decide +kernel
  exact ByteArray.ext (this ⟨A, h⟩)

set_option maxHeartbeats 400000 in
theorem refHex_is (l : List UInt8) (a : Option Addr) (n cp : Nat) (w : World) (hl : In w a n cp l) (hn : n ≤ 100000) :
    Calls Tryd.prog 27 #[.slice a n cp] w fun e w' => e = .returned (.string ⟨(hexOf l).toArray⟩) ∧ Below w.heap.size w w' := by
  have HL : Hid (In w a n cp l) := hl
  have HLL : Hid (l.length = n) := hl.1
  have HN : Hid (n ≤ 100000) := hn
  have q0 : (n : Int) ≤ 100000 := by omega
  clear hl
  go_enter Tryd.func27, Tryd.ntmps27
  go_wp2_with fail
  go_loopw [4, 3] (fun i v wr => ∃ (t : Nat) (S : ByteArray), i = .int .i64 t ∧ t ≤ n ∧ v = .string S ∧ Hid (S = ⟨(hexOf (l.take t)).toArray⟩) ∧ ∃ k, wr = w.drewN k) (fun i _ _ => n - (intOf i).toNat)
  case atStart => exact ⟨0, ⟨#[]⟩, rfl, by omega, rfl, rfl, 0, rfl⟩
  case round =>
    obtain ⟨t, S, rfl, ht, rfl, hS, k, rfl⟩ := hrel
    by_cases hlt : t = n
    · subst hlt
      go_wp2
      go_ret
      refine ⟨?_, ⟨rfl, rfl, rfl, Nat.le_refl _, fun _ _ => rfl⟩⟩
      have e := hS.out
      rw [List.take_of_length_le (by rw [HLL.out]; exact Nat.le_refl _)] at e
      rw [e]
      rfl
    · have q1 : (t : Int) < (n : Int) := by omega
      have HT : Hid (t < n) := by show t < n; omega
      obtain ⟨ba, oa, rfl, ha1, ha2⟩ := HL.out.2.2.2.2 (by omega)
      have htl : t < l.length := by rw [HLL.out]; exact HT.out
      obtain ⟨x, hx⟩ : ∃ x, x = l[t] := ⟨_, rfl⟩
      have c1 : w.cell? ⟨ba, oa + t, none⟩ = some (.int .u8 (x.toNat : Int)) := ha2 t _ (by rw [List.getElem?_eq_getElem htl, hx])
      have HNX : Hid (hexOf (l.take (t + 1)) = hexOf (l.take t) ++ [digits.getD (x.toNat / 16) 0, digits.getD (x.toNat % 16) 0]) := by
        show _ = _
        rw [List.take_succ_eq_append_getElem htl, hexOf_append, ← hx]
        rfl
      have HXL : Hid (x.toNat < 256) := x.toNat_lt
      obtain ⟨X, hX⟩ : ∃ X, X = x.toNat := ⟨_, rfl⟩
      rw [← hX] at c1 HNX HXL
      have q2 : (X : Int) < 256 := by have := HXL.out; omega
      obtain ⟨A, hA⟩ : ∃ A, A = X / 16 := ⟨_, rfl⟩
      obtain ⟨B, hB⟩ : ∃ B, B = X % 16 := ⟨_, rfl⟩
      have hA1 : (X : Int) / 16 = (A : Int) := by omega
      have hB1 : (X : Int) % 16 = (B : Int) := by omega
      have hA2 : A < 16 := by have := HXL.out; omega
      have hB2 : B < 16 := by omega
      have hA3 : (A : Int) < 16 := by omega
      have hB3 : (B : Int) < 16 := by omega
      rw [← hA, ← hB] at HNX
      have hE1 := digits_cut A hA2
      have hE2 := digits_cut B hB2
      generalize digits.getD A 0 = d1 at HNX hE1
      generalize digits.getD B 0 = d2 at HNX hE2
      generalize hF1 : (⟨#[d1]⟩ : ByteArray) = E1 at hE1
      generalize hF2 : (⟨#[d2]⟩ : ByteArray) = E2 at hE2
      have z1 : E1.size = 1 := by rw [← hF1]; rfl
      have z2 : E2.size = 1 := by rw [← hF2]; rfl
      have HF1 : Hid ((⟨#[d1]⟩ : ByteArray) = E1) := hF1
      have HF2 : Hid ((⟨#[d2]⟩ : ByteArray) = E2) := hF2
      obtain ⟨s, hs⟩ : ∃ s, S.size = s := ⟨_, rfl⟩
      have hs1 : s ≤ 200000 := by
        rw [← hs, hS.out]
        show (hexOf (l.take t)).toArray.size ≤ _
        rw [List.size_toArray, hexOf_length, List.length_take]
        have := HN.out; have := HLL.out; omega
      have hs2 : ¬ 9223372036854775807 < s + 1 := by omega
      have hs3 : ¬ 9223372036854775807 < s + 1 + 1 := by omega
      have hs4 : s + 1 ≤ 9223372036854775807 := by omega
      have hs5 : s + 1 + 1 ≤ 9223372036854775807 := by omega
      clear ha2 hlt hX hx htl hA hB hF1 hF2
      go_wp2_with fail
      go_region
      go_wp2
      refine ⟨⟨t + 1, _, by simp, HT.out, rfl, ?_, k + 1, rfl⟩, ?_⟩
      · show _ = _
        rw [hS.out, ← HF1.out, ← HF2.out, HNX.out]
        apply ByteArray.ext
        simp [ByteArray.data_append]
      · have := HT.out
        simp only [intOf]
        omega
#print axioms refHex_is
end Go.Proofs.YtjeahlfmapacfaaDoor.Oct
