/-
  Layer 7 (tree): a key with a number.
-/
import Derived.Test.YtnagknlfboadkaaRefScan
import Derived.Laws.IdiomStrings
namespace Go.Proofs.Ytnagknlfboadkaa.Oct
open Go.RowKit

/-- a key with a number's two letters -/
def num2 (n : Nat) : List UInt8 := [UInt8.ofNat (n / 26 % 26 + 97), UInt8.ofNat (n % 26 + 97)]
def numK (key : ByteArray) (n : Nat) : ByteArray := key ++ ⟨(num2 n).toArray⟩
theorem num_conv (w : World) (n : Nat) : (convert 63 9 (Value.slice (some { block := w.heap.size, off := 0 }) 2 2)).run Try.prog (w.alloc (Obj.cells #[Value.int IntKind.u8 ((n : Int) / 26 % 26 + 97), Value.int IntKind.u8 ((n : Int) % 26 + 97)] 5)) = .ok (.string ⟨(num2 n).toArray⟩) (w.alloc (Obj.cells #[Value.int IntKind.u8 ((n : Int) / 26 % 26 + 97), Value.int IntKind.u8 ((n : Int) % 26 + 97)] 5)) := by
  refine run_convert_bytes_back _ 63 9 5 ⟨w.heap.size, 0, none⟩ 2 (num2 n) Try.underlying63 Try.underlying5 Try.underlying9 fun j hj => ?_
  have e1 : ((UInt8.ofNat (n / 26 % 26 + 97)).toNat : Int) = (n : Int) / 26 % 26 + 97 := by
    rw [UInt8.toNat_ofNat']; omega
  have e2 : ((UInt8.ofNat (n % 26 + 97)).toNat : Int) = (n : Int) % 26 + 97 := by
    rw [UInt8.toNat_ofNat']; omega
  match j, hj with
  | 0, _ => go_simp; simp [num2]; omega
  | 1, _ => go_simp; simp [num2]; omega
theorem number_is (w : World) (key : ByteArray) (n : Nat) (hn : n < 60) (hk : key.size ≤ 100000) : Calls Try.prog 26 #[.string key, .int .i64 (n : Int)] w fun e w' => e = .returned (.string (numK key n)) ∧ Hid (Below w.heap.size w w') := by
  have q0 : (n : Int) < 60 := by omega
  have q9 : ¬ 9223372036854775807 < key.size + (num2 n).length := by simp [num2]; omega
  have HQ : Hid (∀ n : Nat, (convert 63 9 (Value.slice (some { block := w.heap.size, off := 0 }) 2 2)).run Try.prog (w.alloc (Obj.cells #[Value.int IntKind.u8 ((n : Int) / 26 % 26 + 97), Value.int IntKind.u8 ((n : Int) % 26 + 97)] 5)) = .ok (.string ⟨(num2 n).toArray⟩) (w.alloc (Obj.cells #[Value.int IntKind.u8 ((n : Int) / 26 % 26 + 97), Value.int IntKind.u8 ((n : Int) % 26 + 97)] 5))) := num_conv w
  go_enter Try.func26, Try.ntmps26
  go_wp2
  rw [HQ.out n]
  go_wp2
  go_ret
  exact ⟨rfl, (Below.refl _ w).alloc (Nat.le_refl _) _⟩
#print axioms number_is
end Go.Proofs.Ytnagknlfboadkaa.Oct
