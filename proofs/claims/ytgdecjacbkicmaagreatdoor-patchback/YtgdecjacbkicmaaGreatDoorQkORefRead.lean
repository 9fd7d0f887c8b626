/-
  Layer 1 (octet): the document's own Uint and Text tell what the plain functions 'dec' and 'txt' say.
-/
import Derived.Test.YtgdecjacbkicmaaGreatDoorQkC
import Derived.Test.YtgdecjacbkicmaaGreatDoorArgs
/- Layer 1 (octet): the document's own Uint and Text tell what the plain functions 'dec' and 'txt' say. -/
namespace Go.Proofs.YtgdecjacbkicmaaGreatDoor.Oct
open Go.RowKit
set_option maxRecDepth 100000

/-- 'n = n + weight * uint64(b[i] % 128)', where it fits -/
theorem num_add {q c j W : Nat} (hW : W = 128 ^ j) (hq : q < W) (hj : j ≤ 9) (h9 : j = 9 → c ≤ 1) : q + W * (c % 128) < 18446744073709551616 := by
  subst hW
  by_cases e : j = 9
  · subst e
    have : c % 128 ≤ 1 := by have := h9 rfl; omega
    have := Nat.mul_le_mul_left (128 ^ 9) this
    omega
  · have h8 : (128 : Nat) ^ j ≤ 128 ^ 8 := Nat.pow_le_pow_right (by omega) (by omega)
    have : 128 ^ j * (c % 128) ≤ 128 ^ 8 * 127 := Nat.mul_le_mul h8 (by omega)
    omega

theorem wrap_add {q W c : Nat} (h : q + W * (c % 128) < 18446744073709551616) : IntKind.u64.wrap ((q : Int) + IntKind.u64.wrap ((W : Int) * ((c : Int) % 128))) = ((q + W * (c % 128) : Nat) : Int) := by
  have e : (W : Int) * ((c : Int) % 128) = ((W * (c % 128) : Nat) : Int) := by rw [Int.natCast_mul]; rfl
  rw [e, IntKind.wrap_u64, IntKind.wrap_u64]
  generalize W * (c % 128) = m at *
  omega
theorem wrap_128 {W : Nat} (h : W * 128 ≤ 9223372036854775808) : IntKind.u64.wrap ((W : Int) * 128) = ((W * 128 : Nat) : Int) := by
  rw [IntKind.wrap_u64]; omega

/-- what is sliced off an argument's bytes, as a string -/
theorem string_mid {a : Option Addr} {len cap : Nat} {l : List UInt8} {w : World} (hin : In w a len cap l) (k n cp : Nat) (h : k + n ≤ len) (ao : Option Addr) (hao : ∀ b off, a = some ⟨b, off, none⟩ → 0 < n → ao = some ⟨b, off + k, none⟩) (hsome : ∃ x, ao = some x) :
    (convert 26 9 (.slice ao n cp)).run Tryz.prog w = .ok (.string ⟨((l.drop k).take n).toArray⟩) w := by
  obtain ⟨x, rfl⟩ := hsome
  have hl := hin.1
  have hlen : ((l.drop k).take n).length = n := by simp; omega
  have e := run_convert_bytes_back w 26 9 5 x cp ((l.drop k).take n) Tryz.underlying26 Tryz.underlying5 Tryz.underlying9 (fun j hj => by
    rw [hlen] at hj
    obtain ⟨b, off, e1, _, e3⟩ := hin.2.2.2.2 (by omega)
    have e4 := hao b off e1 (by omega)
    obtain rfl := Option.some.inj e4
    rw [Addr.add_lit, Nat.add_assoc, e3 (k + j) l[k + j] (List.getElem?_eq_getElem (by omega))]
    simp)
  rw [hlen] at e
  exact e

end Go.Proofs.YtgdecjacbkicmaaGreatDoor.Oct
