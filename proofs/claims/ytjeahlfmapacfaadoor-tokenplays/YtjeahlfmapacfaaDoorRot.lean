/-
  Layer 2 (hash): a word turned to the right; the document's s0, s1, S0, S1.
-/
import Derived.Test.YtjeahlfmapacfaaDoorChecked
import Derived.Test.YtjeahlfmapacfaaDoorBase
import Derived.Test.YtjeahlfmapacfaaDoorSha
import Derived.WalkSpells
import Derived.WalkLawsBesides
import Derived.Outline
import Derived.Deep.RegionHeld
namespace Go.Proofs.YtjeahlfmapacfaaDoor.Oct
open Go.RowKit Sha

theorem and31 : ∀ n : Fin 32, 0 < n.val → bits BinOp.and IntKind.u64 (IntKind.u64.wrap (-(n.val : Int))) 31 = 32 - (n.val : Int) := by decide +kernel

theorem toNat32 {n : Nat} (h : n < 4294967296) : (UInt32.ofNat n).toNat = n := by
  rw [UInt32.toNat_ofNat']; omega
theorem lt32 (x : UInt32) : x.toNat < 4294967296 := x.toNat_lt

theorem rot_eq (x : UInt32) (n : Nat) (h1 : 1 ≤ n) (h2 : n ≤ 31) : bits BinOp.or IntKind.u32 ((x.toNat : Int) * 2 ^ (32 - n) % 4294967296) ((x.toNat : Int) / 2 ^ (32 - (32 - n))) = ((rotr x n).toNat : Int) := by
  have e1 : (x.toNat : Int) * 2 ^ (32 - n) % 4294967296 = ((x.toNat * 2 ^ (32 - n) % 4294967296 : Nat) : Int) := by simp
  have e2 : (x.toNat : Int) / 2 ^ (32 - (32 - n)) = ((x.toNat / 2 ^ n : Nat) : Int) := by rw [show 32 - (32 - n) = n by omega]; simp
  have b1 : x.toNat * 2 ^ (32 - n) % 4294967296 < 4294967296 := Nat.mod_lt _ (by omega)
  have b2 : x.toNat / 2 ^ n < 4294967296 := Nat.lt_of_le_of_lt (Nat.div_le_self _ _) (lt32 x)
  rw [e1, e2, u32_or_nat _ _ b1 b2]
  unfold rotr
  rw [toNat32 (Nat.or_lt_two_pow (n := 32) b1 b2)]

theorem xor_eq (x y : UInt32) : bits BinOp.xor IntKind.u32 (x.toNat : Int) (y.toNat : Int) = ((x ^^^ y).toNat : Int) := by
  rw [u32_xor_nat _ _ (lt32 x) (lt32 y), UInt32.toNat_xor]
theorem and_eq (x y : UInt32) : bits BinOp.and IntKind.u32 (x.toNat : Int) (y.toNat : Int) = ((x &&& y).toNat : Int) := by
  rw [u32_and_nat _ _ (lt32 x) (lt32 y), UInt32.toNat_and]
theorem add_eq (x y : UInt32) : IntKind.u32.wrap ((x.toNat : Int) + (y.toNat : Int)) = ((x + y).toNat : Int) := by
  rw [IntKind.wrap_u32, UInt32.toNat_add]; omega

theorem rotl (x : UInt32) (n : Nat) (w : World) (h1 : 1 ≤ n) (h2 : n ≤ 31) :
    Calls Tryd.prog 84 #[.int .u32 (x.toNat : Int), .int .i64 (-(n : Int))] w fun e w' => e = .returned (.int .u32 ((rotr x n).toNat : Int)) ∧ w = w' := by
  have ha := and31 ⟨n, by omega⟩ h1
  simp only at ha
  have q1 : (1 : Int) ≤ (n : Int) := by omega
  have q2 : (n : Int) ≤ 31 := by omega
  have q3 : (x.toNat : Int) < 4294967296 := by have := lt32 x; omega
  obtain ⟨X, hX⟩ : ∃ X, X = x.toNat := ⟨_, rfl⟩
  have HE : Hid _ := rot_eq x n h1 h2
  rw [← hX] at q3 HE ⊢
  clear hX
  go_enter Tryd.func84, Tryd.ntmps84
  go_wp2
  go_ret
  exact ⟨congrArg (fun z => Ending.returned (Value.int IntKind.u32 z)) HE.out, rfl⟩

theorem rot_is (x : UInt32) (n : Nat) (w : World) (h1 : 1 ≤ n) (h2 : n ≤ 31) :
    Calls Tryd.prog 81 #[.int .u32 (x.toNat : Int), .int .i64 (n : Int)] w fun e w' => e = .returned (.int .u32 ((rotr x n).toNat : Int)) ∧ w = w' := by
  go_enter Tryd.func81, Tryd.ntmps81
  go_wp2_with (go_at_call 84; refine (rotl x n _ h1 h2).mono ?_; rintro e w' ⟨rfl, rfl⟩)
  go_ret
  exact ⟨rfl, rfl⟩

theorem turns_is (x : UInt32) (a b c : Nat) (w : World) (ha : 1 ≤ a) (ha' : a ≤ 31) (hb : 1 ≤ b) (hb' : b ≤ 31) (hc : 1 ≤ c) (hc' : c ≤ 31) :
    Calls Tryd.prog 74 #[.int .u32 (x.toNat : Int), .int .i64 (a : Int), .int .i64 (b : Int), .int .i64 (c : Int)] w fun e w' => e = .returned (.int .u32 ((turns x a b c).toNat : Int)) ∧ w = w' := by
  go_enter Tryd.func74, Tryd.ntmps74
  go_wp2_with fail
  refine (rot_is x a _ ha ha').mono ?_
  rintro e w1 ⟨rfl, rfl⟩
  go_wp2_with fail
  refine (rot_is x b _ hb hb').mono ?_
  rintro e w1 ⟨rfl, rfl⟩
  go_wp2_with fail
  refine (rot_is x c _ hc hc').mono ?_
  rintro e w1 ⟨rfl, rfl⟩
  go_wp2
  go_ret
  refine ⟨?_, rfl⟩
  have e1 := xor_eq (rotr x a) (rotr x b)
  have e2 := xor_eq (rotr x a ^^^ rotr x b) (rotr x c)
  exact congrArg (fun z => Ending.returned (Value.int IntKind.u32 z)) (by rw [e1, e2]; rfl)

theorem shr_eq (x : UInt32) (n : Nat) : (x.toNat : Int) / 2 ^ n = ((shr x n).toNat : Int) := by
  unfold shr
  rw [toNat32 (Nat.lt_of_le_of_lt (Nat.div_le_self _ _) (lt32 x))]
  simp

theorem spread_is (x : UInt32) (a b c : Nat) (w : World) (ha : 1 ≤ a) (ha' : a ≤ 31) (hb : 1 ≤ b) (hb' : b ≤ 31) (hc : 1 ≤ c) (hc' : c ≤ 31) :
    Calls Tryd.prog 75 #[.int .u32 (x.toNat : Int), .int .i64 (a : Int), .int .i64 (b : Int), .int .i64 (c : Int)] w fun e w' => e = .returned (.int .u32 ((spread x a b c).toNat : Int)) ∧ ∃ n, w' = w.drewN n := by
  have q1 : (1 : Int) ≤ (c : Int) := by omega
  have q2 : (c : Int) ≤ 31 := by omega
  go_enter Tryd.func75, Tryd.ntmps75
  go_wp2_with fail
  go_region_held (fun _ => True) (trivial)
    (first
    | (go_at_call_of 81 (Value.int IntKind.i64 (a : Int)); refine (rot_is x a _ ha ha').mono ?_; rintro e w1 ⟨rfl, rfl⟩)
    | (go_at_call_of 81 (Value.int IntKind.i64 (b : Int)); refine (rot_is x b _ hb hb').mono ?_; rintro e w1 ⟨rfl, rfl⟩))
  go_wp2
  go_ret
  refine ⟨?_, 1, rfl⟩
  have e1 := xor_eq (rotr x a) (rotr x b)
  have e2 := xor_eq (rotr x a ^^^ rotr x b) (shr x c)
  exact congrArg (fun z => Ending.returned (Value.int IntKind.u32 z)) (by rw [shr_eq, e1, e2]; rfl)

#print axioms spread_is
end Go.Proofs.YtjeahlfmapacfaaDoor.Oct
