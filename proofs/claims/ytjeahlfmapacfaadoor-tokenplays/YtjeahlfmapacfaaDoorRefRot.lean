/-
  Layer 2 (hash): the reference's rotation and its table.
-/
import Derived.Test.YtjeahlfmapacfaaDoorWords
import Derived.Test.YtjeahlfmapacfaaDoorSum
namespace Go.Proofs.YtjeahlfmapacfaaDoor.Oct
open Go.RowKit Sha

theorem rrot_eq (x : UInt32) (n : Nat) : bits BinOp.or IntKind.u32 ((x.toNat : Int) / 2 ^ n) ((x.toNat : Int) * 2 ^ (32 - n) % 4294967296) = ((rotr x n).toNat : Int) := by
  have e1 : (x.toNat : Int) * 2 ^ (32 - n) % 4294967296 = ((x.toNat * 2 ^ (32 - n) % 4294967296 : Nat) : Int) := by simp
  have e2 : (x.toNat : Int) / 2 ^ n = ((x.toNat / 2 ^ n : Nat) : Int) := by simp
  have b1 : x.toNat * 2 ^ (32 - n) % 4294967296 < 4294967296 := Nat.mod_lt _ (by omega)
  have b2 : x.toNat / 2 ^ n < 4294967296 := Nat.lt_of_le_of_lt (Nat.div_le_self _ _) (lt32 x)
  rw [e1, e2, u32_or_nat _ _ b2 b1]
  unfold rotr
  rw [toNat32 (Nat.or_lt_two_pow (n := 32) b1 b2), Nat.or_comm]

theorem rrot_is (x : UInt32) (n : Nat) (w : World) (h1 : 1 ≤ n) (h2 : n ≤ 31) :
    Calls Tryd.prog 66 #[.int .u32 (x.toNat : Int), .int .i64 (n : Int)] w fun e w' => e = .returned (.int .u32 ((rotr x n).toNat : Int)) ∧ w = w' := by
  have q1 : (1 : Int) ≤ (n : Int) := by omega
  have q2 : (n : Int) ≤ 31 := by omega
  have q3 : (x.toNat : Int) < 4294967296 := by have := lt32 x; omega
  obtain ⟨m, hm⟩ : ∃ m, m = 32 - n := ⟨_, rfl⟩
  have q4 : 32 - (n : Int) = (m : Int) := by omega
  have q5 : (m : Int) ≤ 31 := by omega
  have q6 : (1 : Int) ≤ (m : Int) := by omega
  have HE : Hid _ := rrot_eq x n
  rw [← hm] at HE
  obtain ⟨X, hX⟩ : ∃ X, X = x.toNat := ⟨_, rfl⟩
  rw [← hX] at q3 HE ⊢
  clear hX hm
  go_enter Tryd.func66, Tryd.ntmps66
  go_wp2
  go_ret
  exact ⟨congrArg (fun z => Ending.returned (Value.int IntKind.u32 z)) HE.out, rfl⟩

theorem zero52 : ∀ W, (zeroValue 95).run Tryd.prog W = .ok (.agg (zw 64).toArray) W := by
  intro W
  have h : (Tryd.prog.info? 95).bind (·.zero) = some (.agg (zw 64).toArray) := by kernel_rfl
  obtain ⟨i, hi, hz⟩ := Option.bind_eq_some_iff.1 h
  simp only [zeroValue, typeInfo]
  simp [hi, hz]
theorem size52 : (Tryd.prog.info? 95).map (·.size) = some 64 := by kernel_rfl
theorem V_one (l : List UInt32) : ∀ v ∈ V l, v.oneCell' = true := by
  intro v hv
  simp only [V, List.mem_map] at hv
  obtain ⟨x, _, rfl⟩ := hv
  rfl
theorem stored52 {w : World} {b : Nat} {cells : List Value} (hl : cells.length = 64) (h : Blk w b 95 ((zw 64).take 0 ++ cells ++ (zw 64).drop (0 + cells.length))) : Blk w b 95 cells := by
  rw [List.drop_eq_nil_of_le (by rw [zw_length]; omega)] at h
  simpa using h

set_option maxRecDepth 100000 in
theorem roots_is (w : World) : Calls Tryd.prog 49 #[] w fun e w' => e = .returned (.agg (V kTab).toArray) ∧ Below w.heap.size w w' := by
  have hz := zero52
  obtain ⟨KL, hKL⟩ : ∃ KL, V kTab = KL := ⟨_, rfl⟩
  have HKL : Hid (V kTab = KL) := hKL
  have HL : Hid (KL.length = 64) := by rw [← hKL]; rfl
  have HO : Hid (∀ v ∈ KL, v.oneCell' = true) := by rw [← hKL]; exact V_one _
  generalize hZ : zw 64 = Z at hz
  have HZ : Hid (zw 64 = Z) := hZ
  have HZL : Hid (Z.length = 64) := by rw [← hZ]; exact zw_length 64
  clear hZ hKL
  go_enter Tryd.func49, Tryd.ntmps49
  go_wp2_with (first
    | (refine wpList_built rfl 95 _ rfl KL.toArray (by rw [← HKL.out]; kernel_rfl) ?_)
    | (refine wpList_store_blk rfl 95 (.tmp 0) (.tmp 1) rfl w.heap.size 0 95 Z KL rfl rfl (Blk.new w Z.toArray 95) (by rw [HL.out, HZL.out]; omega) (by rw [size52, HL.out]) HO.out ?_; intro w2 hB2 hG2))
  have HR : Hid (w2.heap[w.heap.size]? = some (.cells KL.toArray 95 (0, 0))) := by
    have e := hB2.out
    rw [← HZ.out] at e
    exact stored52 HL.out e
  refine bodyPost_ret (v := .agg KL.toArray) (results_cell_row rfl _ _ w.heap.size 95 _ (0, 0) _ rfl HR.out Tryd.underlying95 rfl (by rw [size52, List.size_toArray, HL.out])) rfl ⟨by rw [HKL.out], ?_⟩
  exact ((Below.refl _ w).alloc (Nat.le_refl _) _).grown hG2.out (by simp) (by intro k hk; have := Option.some.inj hk; omega)
#print axioms roots_is
end Go.Proofs.YtjeahlfmapacfaaDoor.Oct
