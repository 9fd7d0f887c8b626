/-
  Layer 1 (octet): the chapter's example, which each law asks for.
-/
import Derived.Test.YtdealgbbahmigaaPut
namespace Go.Proofs.Ytdealgbbahmigaa.Oct
open Go.RowKit

theorem enc300 : enc 300 = [172, 2] := by rw [enc_big (by decide), enc_small (by decide)]; rfl
theorem enc2 : enc 2 = [2] := by rw [enc_small (by decide)]; rfl

set_option maxHeartbeats 400000 in
theorem lives (w : World) : Calls Try.prog 8 #[] w fun e w' => e = .returned (.bool true) ∧ Below w.heap.size w w' := by
  go_enter Try.func8, Try.ntmps8
  go_wp2_with fail
  refine (put none 0 0 [] 300 _ (In.nil _) (by omega) (by omega)).mono ?_
  rw [show (300 : Int).toNat = 300 from rfl, enc300]
  rintro e w1 ⟨rfl, hown1, hb1⟩
  have hs1 : (convert 22 9 (.slice (some ⟨w.heap.size, 0, none⟩) (0 + [172, 2].length) (0 + [172, 2].length))).run Try.prog w1 = .ok (.string ⟨[172, 2].toArray⟩) w1 := string_own Try.underlying22 Try.underlying5 Try.underlying9 hown1
  simp only [List.length_cons, List.length_nil, Nat.zero_add] at hs1 ⊢
  clear hown1
  go_wp2_with fail
  refine (putText none 0 0 [] ⟨#[97, 98]⟩ _ (In.nil _) (by decide)).mono ?_
  rw [show (⟨#[97, 98]⟩ : ByteArray).size = 2 from rfl, enc2, show ([] : List UInt8) ++ [2] ++ (⟨#[97, 98]⟩ : ByteArray).data.toList = [2, 97, 98] from rfl]
  rintro e w2 ⟨g, cp, rfl, hg, _, _, hown2, hb2⟩
  have hs2 : (convert 22 9 (.slice (some ⟨g, 0, none⟩) 3 cp)).run Try.prog w2 = .ok (.string ⟨[2, 97, 98].toArray⟩) w2 := string_own Try.underlying22 Try.underlying5 Try.underlying9 hown2
  have hb := hb1.trans (hb2.mono hb1.size)
  clear hown2 hb1 hb2 hs1
  simp only [List.length_cons, List.length_nil, Nat.zero_add]
  go_wp2
  go_ret
  exact ⟨rfl, hb⟩

#print axioms lives

end Go.Proofs.Ytdealgbbahmigaa.Oct
