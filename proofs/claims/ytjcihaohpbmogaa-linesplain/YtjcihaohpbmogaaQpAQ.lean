/-
  Layer 11 (lines): words as sets of numbers.
  Layer 11 (lines): a graph that no call made: the law.
-/
import Derived.Test.YtjcihaohpbmogaaQpAP
import Derived.Test.YtjcihaohpbmogaaQpAO
/- Layer 11 (lines): words as sets of numbers. -/
namespace Go.Proofs.Ytjcihaohpbmogaa.Oct
open Go.RowKit
set_option maxRecDepth 100000
set_option linter.unusedSimpArgs false
set_option linter.unusedVariables false
set_option linter.unusedSectionVars false

theorem u64_small (n : Nat) (h : n < 18446744073709551616) : IntKind.u64.wrap (n : Int) = (n : Int) := by
  have e : (n : Int) % 2 ^ 64 = n := Int.emod_eq_of_lt (by omega) (by omega)
  simp only [IntKind.wrap, IntKind.bits, IntKind.signed, e]
  rw [if_neg]
  simp
theorem and_u64 (x y : Nat) (hx : x < 18446744073709551616) (hy : y < 18446744073709551616) : bits .and .u64 (x : Int) (y : Int) = ((x &&& y : Nat) : Int) := by
  show IntKind.u64.wrap ((BitVec.ofInt 64 (x : Int) &&& BitVec.ofInt 64 (y : Int)).toNat : Int) = _
  rw [BitVec.toNat_and, Go.ofInt_u64 x hx, Go.ofInt_u64 y hy]
  exact u64_small _ (Nat.lt_of_le_of_lt Nat.and_le_left hx)
theorem or_u64 (x y : Nat) (hx : x < 18446744073709551616) (hy : y < 18446744073709551616) : orB (x : Int) (y : Int) = ((x ||| y : Nat) : Int) ∧ x ||| y < 18446744073709551616 := by
  have hlt : x ||| y < 2 ^ 64 := Nat.or_lt_two_pow hx hy
  refine ⟨?_, hlt⟩
  show IntKind.u64.wrap ((BitVec.ofInt 64 (x : Int) ||| BitVec.ofInt 64 (y : Int)).toNat : Int) = _
  rw [BitVec.toNat_or, Go.ofInt_u64 x hx, Go.ofInt_u64 y hy]
  exact u64_small _ hlt
theorem half_cast (x k : Nat) : ((x : Int) / (k : Int)) = ((x / k : Nat) : Int) := by rw [Int.natCast_ediv]
theorem o1_nat (x : Nat) (h : x < 18446744073709551616) : o1 (x : Int) = ((fh 1 32 x : Nat) : Int) ∧ fh 1 32 x < 18446744073709551616 := by
  have hm : msk 1 32 = 6148914691236517205 := by decide +kernel
  have hlt : fh 1 32 x < 18446744073709551616 := by
    unfold fh
    rw [hm]
    have h1 : x / 2 ^ 1 &&& 6148914691236517205 ≤ 6148914691236517205 := Nat.and_le_right
    have h2 : x &&& 6148914691236517205 ≤ 6148914691236517205 := Nat.and_le_right
    omega
  refine ⟨?_, hlt⟩
  show IntKind.u64.wrap (bits .and .u64 ((x : Int) / ((2 : Nat) : Int)) ((6148914691236517205 : Nat) : Int) + bits .and .u64 (x : Int) ((6148914691236517205 : Nat) : Int)) = _
  rw [half_cast, and_u64 _ _ (by omega) (by omega), and_u64 _ _ h (by omega)]
  have e : fh 1 32 x = (x / 2 &&& 6148914691236517205) + (x &&& 6148914691236517205) := by unfold fh; rw [hm]
  rw [← Int.natCast_add, ← e, u64_small _ hlt]
theorem o2_nat (x : Nat) (h : x < 18446744073709551616) : o2 (x : Int) = ((fh 2 16 x : Nat) : Int) ∧ fh 2 16 x ≤ 7378697629483820646 := by
  have hm : msk 2 16 = 3689348814741910323 := by decide +kernel
  have hlt : fh 2 16 x ≤ 7378697629483820646 := by
    unfold fh
    rw [hm]
    have h1 : x / 2 ^ 2 &&& 3689348814741910323 ≤ 3689348814741910323 := Nat.and_le_right
    have h2 : x &&& 3689348814741910323 ≤ 3689348814741910323 := Nat.and_le_right
    omega
  refine ⟨?_, hlt⟩
  show IntKind.u64.wrap (bits .and .u64 ((x : Int) / ((4 : Nat) : Int)) ((3689348814741910323 : Nat) : Int) + bits .and .u64 (x : Int) ((3689348814741910323 : Nat) : Int)) = _
  rw [half_cast, and_u64 _ _ (by omega) (by omega), and_u64 _ _ h (by omega)]
  have e : fh 2 16 x = (x / 4 &&& 3689348814741910323) + (x &&& 3689348814741910323) := by unfold fh; rw [hm]
  rw [← Int.natCast_add, ← e, u64_small _ (by omega)]
theorem o3_nat (x : Nat) (h : x ≤ 7378697629483820646) : o3 (x : Int) = ((gh 8 x : Nat) : Int) ∧ gh 8 x < 18446744073709551616 := by
  have hm : msk 4 8 = 1085102592571150095 := by decide +kernel
  have hlt : gh 8 x < 18446744073709551616 := by
    unfold gh
    rw [hm]
    have h1 : x / 16 + x &&& 1085102592571150095 ≤ 1085102592571150095 := Nat.and_le_right
    omega
  refine ⟨?_, hlt⟩
  show bits .and .u64 (IntKind.u64.wrap ((x : Int) / ((16 : Nat) : Int) + (x : Int))) ((1085102592571150095 : Nat) : Int) = _
  rw [half_cast, ← Int.natCast_add, u64_small _ (by omega), and_u64 _ _ (by omega) (by omega)]
  unfold gh
  rw [hm]
theorem oh_nat (x k y : Nat) (h : x + x / k = y) (hy : y < 9223372036854775808) : oh (x : Int) (k : Int) = (y : Int) := by
  show IntKind.u64.wrap ((x : Int) + (x : Int) / (k : Int)) = _
  rw [half_cast, ← Int.natCast_add, h, u64_small _ (by omega)]
theorem wrap64_nat {n : Nat} (h : n < 9223372036854775808) : wrap64 (n : Int) = (n : Int) := by
  unfold wrap64
  omega
theorem oh256 (x y : Nat) (h : x + x / 256 = y) (hy : y < 9223372036854775808) : oh (x : Int) 256 = (y : Int) := oh_nat x 256 y h hy
theorem oh65536 (x y : Nat) (h : x + x / 65536 = y) (hy : y < 9223372036854775808) : oh (x : Int) 65536 = (y : Int) := oh_nat x 65536 y h hy
theorem oh32 (x y : Nat) (h : x + x / 4294967296 = y) (hy : y < 9223372036854775808) : oh (x : Int) 4294967296 = (y : Int) := oh_nat x 4294967296 y h hy
theorem and127 (c : Nat) (hc : c < 9223372036854775808) : bits .and .i64 (wrap64 (c : Int)) 127 = ((c % 128 : Nat) : Int) := by
  rw [wrap64_nat hc]
  show IntKind.i64.wrap ((BitVec.ofInt 64 (c : Int) &&& BitVec.ofInt 64 ((127 : Nat) : Int)).toNat : Int) = _
  rw [BitVec.toNat_and, Go.ofInt_u64 c (by omega), Go.ofInt_u64 127 (by omega), show (127 : Nat) = 2 ^ 7 - 1 from rfl, Nat.and_two_pow_sub_one_eq_mod, show (2 : Nat) ^ 7 = 128 from rfl]
  exact Go.Lib.wrap_i64_small _ (by omega)
theorem ones_nat (x : Nat) (h : x < 18446744073709551616) : ones (x : Int) = ((dg 1 64 x : Nat) : Int) := by
  obtain ⟨e1, l1⟩ := o1_nat x h
  have b1 : bd 2 2 32 (fh 1 32 x) := fh_bd (b := 1) (c := 1) (by omega) 32 x (bd_one 64 x)
  have d1 : dg 2 32 (fh 1 32 x) = dg 1 64 x := fh_dg (b := 1) (by omega) 32 x
  generalize fh 1 32 x = y1 at *
  obtain ⟨e2, l2⟩ := o2_nat y1 l1
  have b2 : bd 4 4 16 (fh 2 16 y1) := fh_bd (b := 2) (c := 2) (by omega) 16 _ b1
  have d2 : dg 4 16 (fh 2 16 y1) = dg 2 32 y1 := fh_dg (b := 2) (by omega) 16 _
  generalize fh 2 16 y1 = y2 at *
  obtain ⟨e3, l3⟩ := o3_nat y2 l2
  obtain ⟨d3, b3⟩ := gh_dg 8 y2 b2
  generalize gh 8 y2 = y3 at *
  obtain ⟨a, b, c, ha, hb, hc, la, lb, lc, hm⟩ := fin8 y3 l3 b3
  have d3 : dg 8 8 y3 = dg 4 16 y2 := d3
  unfold ones
  rw [e1, e2, e3, oh256 y3 a ha la, oh65536 a b hb lb, oh32 b c hc lc, and127 c lc, hm, d3, d2, d1]
/-- the digits are the bits -/
theorem dg_bits : ∀ (k x : Nat), dg 1 k x = ((List.range k).filter fun i => x.testBit i).length
  | 0, _ => rfl
  | k + 1, x => by
    rw [List.range_succ_eq_map, List.filter_cons, List.filter_map]
    show x % 2 ^ 1 + dg 1 k (x / 2 ^ 1) = _
    rw [Nat.pow_one, dg_bits k (x / 2)]
    have e : ((fun i => x.testBit i) ∘ Nat.succ) = fun i => (x / 2).testBit i := by
      funext i
      show x.testBit (i + 1) = _
      rw [Nat.testBit_succ]
    rw [e, Nat.testBit_zero]
    have := Nat.mod_two_eq_zero_or_one x
    rcases this with h | h
    · simp [h]
    · simp [h]; omega
/-- words that are words -/
def OkW (l : List Int) : Prop := ∀ x ∈ l, ∃ n : Nat, x = (n : Int) ∧ n < 18446744073709551616
def bt (l : List Int) (i r : Nat) : Bool := (l.getD i 0).toNat.testBit r
theorem OkW.get {l : List Int} (h : OkW l) (i : Nat) : ∃ n : Nat, l.getD i 0 = (n : Int) ∧ n < 18446744073709551616 := by
  by_cases hi : i < l.length
  · rw [List.getD_eq_getElem?_getD, List.getElem?_eq_getElem hi]
    exact h _ (List.getElem_mem hi)
  · rw [List.getD_eq_getElem?_getD, List.getElem?_eq_none (by omega)]
    exact ⟨0, rfl, by omega⟩
theorem OkW.set {l : List Int} (h : OkW l) (i : Nat) (n : Nat) (hn : n < 18446744073709551616) : OkW (l.set i (n : Int)) := fun x hx => by
  rcases List.mem_or_eq_of_mem_set hx with hx | hx
  · exact h x hx
  · exact ⟨n, hx, hn⟩
theorem bt_set (l : List Int) (i : Nat) (n : Nat) (hi : i < l.length) (j r : Nat) : bt (l.set i (n : Int)) j r = if j = i then n.testBit r else bt l j r := by
  unfold bt
  rw [List.getD_eq_getElem?_getD, List.getElem?_set]
  by_cases h : j = i
  · subst h
    simp [hi]
  · rw [if_neg (fun e => h e.symm), if_neg h, List.getD_eq_getElem?_getD]
theorem bt_out {l : List Int} {i : Nat} (hi : l.length ≤ i) (r : Nat) : bt l i r = false := by
  unfold bt
  rw [List.getD_eq_getElem?_getD, List.getElem?_eq_none hi]
  simp
theorem bitI_nat {r : Nat} (h : r < 64) : bitI r = ((2 ^ r : Nat) : Int) ∧ 2 ^ r < 18446744073709551616 := by
  have hlt : 2 ^ r < 2 ^ 64 := Nat.pow_lt_pow_right (by omega) h
  refine ⟨?_, hlt⟩
  unfold bitI
  rw [Int.one_mul]
  have : (2 : Int) ^ r = ((2 ^ r : Nat) : Int) := by rw [Int.natCast_pow]; rfl
  rw [this]
  exact u64_small _ hlt
theorem putW_bt {l : List Int} (hl : OkW l) {o n : Nat} (hi : o + n / 64 < l.length) : OkW (putW o n l) ∧ ∀ i r, bt (putW o n l) i r = (bt l i r || (decide (i = o + n / 64) && decide (r = n % 64))) := by
  obtain ⟨a, ea, la⟩ := hl.get (o + n / 64)
  obtain ⟨eb, lb⟩ := bitI_nat (Nat.mod_lt n (show 64 > 0 by omega))
  obtain ⟨ec, lc⟩ := or_u64 a (2 ^ (n % 64)) la lb
  have e : putW o n l = l.set (o + n / 64) ((a ||| 2 ^ (n % 64) : Nat) : Int) := by
    unfold putW
    rw [ea, eb, ec]
  rw [e]
  refine ⟨hl.set _ _ lc, fun i r => ?_⟩
  rw [bt_set _ _ _ hi]
  by_cases h : i = o + n / 64
  · subst h
    rw [if_pos rfl, Nat.testBit_or, Nat.testBit_two_pow]
    unfold bt
    rw [ea]
    simp [eq_comm]
  · rw [if_neg h]
    simp [h]
theorem orW_bt {l X : List Int} (hl : OkW l) (hX : OkW X) {o : Nat} : ∀ k, o + k ≤ l.length → OkW (orW o X k l) ∧ ∀ i r, bt (orW o X k l) i r = (bt l i r || (decide (o ≤ i ∧ i < o + k) && bt X (i - o) r))
  | 0, _ => ⟨hl, fun i r => by
    have : decide (o ≤ i ∧ i < o + 0) = false := decide_eq_false (by omega)
    show bt l i r = _
    rw [this, Bool.false_and, Bool.or_false]⟩
  | k + 1, h => by
    obtain ⟨ih1, ih2⟩ := orW_bt (o := o) hl hX k (by omega)
    obtain ⟨a, ea, la⟩ := ih1.get (o + k)
    obtain ⟨b, eb, lb⟩ := hX.get k
    obtain ⟨ec, lc⟩ := or_u64 a b la lb
    have e : orW o X (k + 1) l = (orW o X k l).set (o + k) ((a ||| b : Nat) : Int) := by
      rw [← ec, ← ea, ← eb]
      rfl
    rw [e]
    refine ⟨ih1.set _ _ lc, fun i r => ?_⟩
    rw [bt_set _ _ _ (by rw [orW_len]; omega)]
    by_cases hi : i = o + k
    · subst hi
      rw [if_pos rfl, Nat.testBit_or]
      have h1 : a.testBit r = bt l (o + k) r := by
        have h2 := ih2 (o + k) r
        have h3 : ¬ (o ≤ o + k ∧ o + k < o + k) := by omega
        unfold bt at h2
        rw [ea] at h2
        simp only [Int.toNat_natCast] at h2
        rw [h2]
        unfold bt
        simp [h3]
      have h4 : b.testBit r = bt X (o + k - o) r := by
        unfold bt
        rw [show o + k - o = k by omega, eb]
        simp
      have h5 : o ≤ o + k ∧ o + k < o + (k + 1) := by omega
      rw [h1, h4]
      simp [h5]
    · rw [if_neg hi, ih2]
      have : (o ≤ i ∧ i < o + k) ↔ (o ≤ i ∧ i < o + (k + 1)) := by omega
      simp [this]
theorem slice_ok {l : List Int} (h : OkW l) (k : Nat) : OkW ((l.drop (k * 8)).take 8) := fun x hx => h x (List.mem_of_mem_drop (List.mem_of_mem_take hx))
theorem slice_bt (l : List Int) (k i r : Nat) (hi : i < 8) : bt ((l.drop (k * 8)).take 8) i r = bt l (k * 8 + i) r := by
  unfold bt
  rw [List.getD_eq_getElem?_getD, List.getD_eq_getElem?_getD, List.getElem?_take_of_lt hi, List.getElem?_drop]
/-- is m in the n-th set? -/
def rowW (l : List Int) (n m : Nat) : Bool := bt l (n * 8 + m / 64) (m % 64)
def jstep (n : Nat) (l : List Int) (k : Nat) : List Int := putW (n * 8) k (orW (n * 8) ((l.drop (k * 8)).take 8) 8 l)
theorem jstep_row {l : List Int} (hl : OkW l) {n k : Nat} (hn : n * 8 + 8 ≤ l.length) (hk : k < 512) : OkW (jstep n l k) ∧ (jstep n l k).length = l.length ∧ ∀ n' m, m < 512 → rowW (jstep n l k) n' m = if n' = n then (rowW l n m || rowW l k m || decide (m = k)) else rowW l n' m := by
  obtain ⟨h1, h2⟩ := orW_bt hl (slice_ok hl k) (o := n * 8) 8 hn
  obtain ⟨h3, h4⟩ := putW_bt h1 (o := n * 8) (n := k) (by rw [orW_len]; omega)
  refine ⟨h3, by unfold jstep; rw [putW_len, orW_len], fun n' m hm => ?_⟩
  unfold rowW
  show bt (putW (n * 8) k (orW (n * 8) ((l.drop (k * 8)).take 8) 8 l)) _ _ = _
  rw [h4, h2]
  by_cases hnn : n' = n
  · subst hnn
    rw [if_pos rfl]
    have e1 : n' * 8 ≤ n' * 8 + m / 64 ∧ n' * 8 + m / 64 < n' * 8 + 8 := by omega
    have e2 : n' * 8 + m / 64 - n' * 8 = m / 64 := by omega
    have e3 : (n' * 8 + m / 64 = n' * 8 + k / 64 ∧ m % 64 = k % 64) ↔ m = k := by omega
    rw [e2, slice_bt _ _ _ _ (by omega), decide_eq_true e1, Bool.true_and, ← Bool.decide_and]
    simp only [e3]
  · rw [if_neg hnn]
    have e1 : ¬ (n * 8 ≤ n' * 8 + m / 64 ∧ n' * 8 + m / 64 < n * 8 + 8) := by omega
    have e2 : ¬ (n' * 8 + m / 64 = n * 8 + k / 64) := by omega
    simp [e1, e2]
theorem jn_row {n : Nat} : ∀ (ks : List Nat) (l : List Int), OkW l → n * 8 + 8 ≤ l.length → (∀ k ∈ ks, k < 512 ∧ k ≠ n) → OkW (jn n ks l) ∧ ∀ n' m, m < 512 → rowW (jn n ks l) n' m = if n' = n then (rowW l n m || ks.any fun k => decide (m = k) || rowW l k m) else rowW l n' m
  | [], l, hl, _, _ => ⟨hl, fun n' m _ => by
    show rowW l n' m = _
    by_cases h : n' = n
    · subst h; simp
    · simp [h]⟩
  | k :: ks, l, hl, hn, hk => by
    obtain ⟨h1, h2, h3⟩ := jstep_row hl hn (hk k (by simp)).1
    obtain ⟨h4, h5⟩ := jn_row ks (jstep n l k) h1 (by rw [h2]; exact hn) (fun x hx => hk x (by simp [hx]))
    refine ⟨h4, fun n' m hm => ?_⟩
    show rowW (jn n ks (jstep n l k)) n' m = _
    rw [h5 n' m hm]
    by_cases h : n' = n
    · subst h
      rw [if_pos rfl, if_pos rfl, h3 _ m hm, if_pos rfl, List.any_cons]
      have e : (ks.any fun x => decide (m = x) || rowW (jstep n' l k) x m) = ks.any fun x => decide (m = x) || rowW l x m := by
        rw [Bool.eq_iff_iff, List.any_eq_true, List.any_eq_true]
        constructor <;>
        · rintro ⟨x, hx, hv⟩
          refine ⟨x, hx, ?_⟩
          rw [h3 x m hm, if_neg (hk x (by simp [hx])).2] at *
          exact hv
      rw [e]
      cases rowW l n' m <;> cases rowW l k m <;> cases decide (m = k) <;> simp
    · rw [if_neg h, if_neg h, h3 n' m hm, if_neg h]
theorem both_cnt {S X : List Int} (hS : OkW S) (hX : OkW X) : ∀ k, k ≤ 8 → bothW S X k = ((((List.range (k * 64)).filter fun m => bt S (m / 64) (m % 64) && bt X (m / 64) (m % 64)).length : Nat) : Int)
  | 0, _ => rfl
  | k + 1, hk => by
    obtain ⟨a, ea, la⟩ := hS.get k
    obtain ⟨b, eb, lb⟩ := hX.get k
    have hlt : a &&& b < 18446744073709551616 := Nat.lt_of_le_of_lt Nat.and_le_left la
    have e1 : (List.range ((k + 1) * 64)) = List.range (k * 64) ++ (List.range 64).map (k * 64 + ·) := by
      rw [Nat.succ_mul, List.range_add]
    have e2 : (((List.range 64).map (k * 64 + ·)).filter fun m => bt S (m / 64) (m % 64) && bt X (m / 64) (m % 64)).length = dg 1 64 (a &&& b) := by
      rw [dg_bits, List.filter_map, List.length_map]
      congr 1
      refine List.filter_congr fun i hi => ?_
      have hi := List.mem_range.1 hi
      show (bt S ((k * 64 + i) / 64) ((k * 64 + i) % 64) && bt X ((k * 64 + i) / 64) ((k * 64 + i) % 64)) = _
      rw [show (k * 64 + i) / 64 = k by omega, show (k * 64 + i) % 64 = i by omega, Nat.testBit_and]
      unfold bt
      rw [ea, eb]
      simp
    have hle : (((List.range (k * 64)).filter fun m => bt S (m / 64) (m % 64) && bt X (m / 64) (m % 64)).length) ≤ k * 64 := by
      have := List.length_filter_le (fun m => bt S (m / 64) (m % 64) && bt X (m / 64) (m % 64)) (List.range (k * 64))
      rwa [List.length_range] at this
    have hle2 : dg 1 64 (a &&& b) ≤ 64 := by
      rw [dg_bits]
      have := List.length_filter_le (fun i => (a &&& b).testBit i) (List.range 64)
      rwa [List.length_range] at this
    show wrap64 (bothW S X k + ones (bits .and .u64 (S.getD k 0) (X.getD k 0))) = _
    rw [both_cnt hS hX k (by omega), ea, eb, and_u64 _ _ la lb, ones_nat _ hlt, e1, List.filter_append, List.length_append, e2, ← Int.natCast_add, wrap64_nat (by omega)]
end Go.Proofs.Ytjcihaohpbmogaa.Oct

/- Layer 11 (lines): a graph that no call made: the law. -/
namespace Go.Proofs.Ytjcihaohpbmogaa.Oct
open Go.RowKit
set_option maxRecDepth 100000
set_option linter.unusedSimpArgs false
set_option linter.unusedVariables false
set_option linter.unusedSectionVars false

theorem AV.len {a : AV} (hu : a.up.ok) (hd : a.dn.ok) (hy : a.by_.length = 32) : a.cells.length = 101 := by
  unfold AV.cells
  simp [Vx.len hu, Vx.len hd, U_length, hy]
theorem AV.one (a : AV) : ∀ v ∈ a.cells, v.oneCell' = true := by
  intro v hv
  unfold AV.cells at hv
  simp only [List.mem_append, List.mem_singleton] at hv
  rcases hv with rfl | h | h | rfl | rfl | h
  · rfl
  · exact Vx.one _ v h
  · exact Vx.one _ v h
  · rfl
  · rfl
  · exact U_one _ v h
theorem info38 {L : List Value} (h : L.length = 101) : (Try.prog.info? 38).map (·.size) = some L.length := by rw [h]; show _ = some 101; kernel_rfl
theorem AV.ranges {w : World} {d : Nat} {a : AV} (h : Blk w d 38 a.cells) (hu : a.up.ok) (hd : a.dn.ok) : w.cell? ⟨d, 0, none⟩ = some (iv a.k) ∧ w.rangeAt d 1 a.up.cells ∧ w.rangeAt d 34 a.dn.cells ∧ w.cell? ⟨d, 67, none⟩ = some (.slice a.ia a.inn a.ic) ∧ w.cell? ⟨d, 68, none⟩ = some (.slice a.ta a.tn a.tc) ∧ w.rangeAt d 69 (U a.by_) := by
  have h0 := h.range0
  unfold AV.cells at h0
  have h1 := rangeAt_right h0
  have h2 := rangeAt_right h1
  have h3 := rangeAt_right h2
  have h4 := rangeAt_right h3
  have h5 := rangeAt_right h4
  simp only [List.length_singleton, Vx.len hu, Vx.len hd] at h1 h2 h3 h4 h5
  refine ⟨?_, by simpa using rangeAt_left h1, by simpa using rangeAt_left h2, ?_, ?_, by simpa using h5⟩
  · have := rangeAt_left h0 0 _ rfl
    simpa using this
  · have := rangeAt_left h3 0 _ rfl
    simpa using this
  · have := rangeAt_left h4 0 _ rfl
    simpa using this
theorem wpList_boxW {ops : Array Oper} {rest : List Oper} {o : Oper} {a : Act} {w : World} {Q : Exit → Act → World → Prop} (hw : Region.wanted o (yielded ops a.tmps) = true) (t : TypeId) (x : Operand) (hop : o.op = Op.box t x) (u r : Value) (hx : a.eval x = u) (W' : World) (hr : (Instr.box t u).run Try.prog w = .ok r W')
    (hK : wpList Try.prog ops Q rest (a.put o.dst r) W') : wpList Try.prog ops Q (o :: rest) a w := by
  refine Go.BigFrame.wpList_want hw fun K' hK' => ?_
  unfold Oper.wp execOp
  simp only [hop, hx, hr, Sem.run_bind, Sem.run_pure, Result.andThen_ok]
  exact hK' _ _ hK
theorem built67 : Try.prog.built 67 [] = some #[.map none] := by kernel_rfl
theorem box67 (W : World) : (Instr.box 67 (.agg #[.map none])).run Try.prog W = .ok (.pointer (some ⟨W.heap.size, 0, none⟩)) (W.alloc (.cells [Value.map none].toArray 67)) := by kernel_rfl
theorem bs68 (p q : Option Addr) (W : World) : (Instr.buildSlice 68 2 #[(0, .pointer p), (1, .pointer q)]).run Try.prog W = .ok (.slice (some ⟨W.heap.size, 0, none⟩) 2 2) (W.alloc (.cells [Value.pointer p, .pointer q].toArray 25)) := by kernel_rfl
/-- along the way -/
def NP (w0 V : World) (d : Nat) (a : AV) (g : Value) : Prop := Below w0.heap.size w0 V ∧ Blk V d 38 a.cells ∧ Un V g ∧ VsR V a.ia a.inn a.ids
theorem NP.step {w0 V V' : World} {d : Nat} {a : AV} {g : Value} (h : NP w0 V d a g) (hb : Below V.heap.size V V') : NP w0 V' d a g := ⟨below_tr h.1 hb, h.2.1.below hb h.2.1.lt, h.2.2.1.below hb, h.2.2.2.below hb⟩
set_option maxHeartbeats 8000000 in
theorem nobody_law (w : World) (a : AV) (ha : AR w a) : Calls Try.prog 8 #[.agg a.cells.toArray] w fun e w' => e = .returned (.bool true) ∧ Below w.heap.size w w' := by
  have HA : Hid (Vk a.up ∧ Vk a.dn ∧ a.by_.length = 32 ∧ a.inn ≤ 140737488355328) := ⟨ha.1, ha.2.1, ha.2.2.2.2.1, ha.2.2.2.2.2.2.2.1⟩
  have HVS : Hid (VsR w a.ia a.inn a.ids) := ha.2.2.1
  have hlen := AV.len ha.1.1 ha.2.1.1 ha.2.2.2.2.1
  obtain ⟨CU, hCU⟩ : ∃ C, a.up.cells = C := ⟨_, rfl⟩
  obtain ⟨CD, hCD⟩ : ∃ C, a.dn.cells = C := ⟨_, rfl⟩
  obtain ⟨CY, hCY⟩ : ∃ C, U a.by_ = C := ⟨_, rfl⟩
  have HI : Hid ((Try.prog.info? 34).map (·.size) = some CU.length ∧ (Try.prog.info? 34).map (·.size) = some CD.length ∧ (Try.prog.info? 32).map (·.size) = some CY.length) := ⟨by rw [← hCU]; exact info34 ha.1.1, by rw [← hCD]; exact info34 ha.2.1.1, by rw [← hCY]; exact info32 _ ha.2.2.2.2.1⟩
  have HCU : Hid (a.up.cells = CU) := hCU
  have HCD : Hid (a.dn.cells = CD) := hCD
  have HCY : Hid (U a.by_ = CY) := hCY
  have h1 := AV.one a
  have h2 := Try.underlying38
  have h3 := info38 hlen
  obtain ⟨CT, hCT⟩ : ∃ C, vTop.cells = C := ⟨_, rfl⟩
  obtain ⟨CB, hCB⟩ : ∃ C, vBot.cells = C := ⟨_, rfl⟩
  have hb1 := built34
  have hb2 := built34b
  rw [hCT] at hb1
  rw [hCB] at hb2
  have HCT : Hid (vTop.cells = CT) := hCT
  have HCB : Hid (vBot.cells = CB) := hCB
  have hbx : (Instr.box 38 (.agg a.cells.toArray)).run Try.prog w = .ok (.pointer (some ⟨w.heap.size, 0, none⟩)) (w.alloc (.cells a.cells.toArray 38)) := by
    obtain ⟨i0, hi0, hs0⟩ := Option.map_eq_some_iff.1 h3
    exact run_box 38 (.agg a.cells.toArray) i0 hi0 (by rw [hs0]; simp [Value.cells]) w
  have hk1 : Blk (w.alloc (.cells a.cells.toArray 38)) w.heap.size 38 a.cells := by simpa using Blk.new w a.cells.toArray 38
  have HK1 := hid_of hk1
  clear ha hCU hCD hCY hCT hCB hk1
  obtain ⟨C, hC⟩ : ∃ C, a.cells = C := ⟨_, rfl⟩
  have HC : Hid (a.cells = C) := hC
  rw [hC] at h1 h3 hlen hbx HK1
  rw [hC]
  clear hC
  go_enter Try.func8, Try.ntmps8
  go_wp2_with (first
    | (with_reducible change wpList _ _ _ ({ dst := some 1, op := _, type := _, pos := _, after := _, guard := _ } :: _) _ _
       refine wpList_boxW (by rfl) 38 (.tmp 0) rfl (.agg C.toArray) (.pointer (some ⟨w.heap.size, 0, none⟩)) rfl (w.alloc (.cells C.toArray 38)) hbx ?_)
    | (with_reducible change wpList _ _ _ ({ dst := some 5, op := _, type := _, pos := _, after := _, guard := _ } :: _) _ _
       refine Hid.out ?_)
    | fail)
  show wpList _ _ _ _ _ _
  obtain ⟨d1, hd1⟩ : ∃ d, w.heap.size = d := ⟨_, rfl⟩
  obtain ⟨W1, hW1⟩ : ∃ W, w.alloc (.cells C.toArray 38) = W := ⟨_, rfl⟩
  have S1 : Hid (Below w.heap.size w W1 ∧ Blk W1 d1 38 a.cells) := ⟨by rw [← hW1]; exact below_al _ _, by rw [HC.out, ← hW1, ← hd1]; exact HK1.out⟩
  rw [hW1, hd1]
  clear hW1 hd1 hbx h1 h3 hlen HK1
  obtain ⟨b2, hb2e⟩ : ∃ b, W1.heap.size = b := ⟨_, rfl⟩
  obtain ⟨W2, hW2⟩ : ∃ W, W1.alloc (.cells [Value.map none].toArray 67) = W := ⟨_, rfl⟩
  have hx67 := box67 W1
  rw [hW2, hb2e] at hx67
  have S2 : Hid (Below w.heap.size w W2 ∧ Blk W2 d1 38 a.cells ∧ Blk W2 b2 67 [.map none]) := by
    have hb : Below W1.heap.size W1 W2 := by rw [← hW2]; exact below_al _ _
    exact ⟨below_tr S1.out.1 hb, S1.out.2.below hb S1.out.2.lt, by rw [← hW2, ← hb2e]; exact Blk.new W1 _ _⟩
  clear hW2 hb2e S1
  obtain ⟨gr, hgr⟩ : ∃ b, W2.heap.size = b := ⟨_, rfl⟩
  obtain ⟨W3, hW3⟩ : ∃ W, W2.alloc (.cells [Value.pointer none, .pointer (some ⟨b2, 0, none⟩)].toArray 25) = W := ⟨_, rfl⟩
  have hx68 := bs68 none (some ⟨b2, 0, none⟩) W2
  rw [hW3, hgr] at hx68
  have S3 : Hid (Below w.heap.size w W3 ∧ Blk W3 d1 38 a.cells ∧ Blk W3 b2 67 [.map none] ∧ Blk W3 gr 25 [.pointer none, .pointer (some ⟨b2, 0, none⟩)]) := by
    have hb : Below W2.heap.size W2 W3 := by rw [← hW3]; exact below_al _ _
    exact ⟨below_tr S2.out.1 hb, S2.out.2.1.below hb S2.out.2.1.lt, S2.out.2.2.below hb S2.out.2.2.lt, by rw [← hW3, ← hgr]; exact Blk.new W2 _ _⟩
  clear hW3 hgr S2
  go_wp2_with (first
    | (with_reducible change wpList _ _ _ ({ dst := some 5, op := _, type := _, pos := _, after := _, guard := _ } :: _) _ _
       refine wpList_built rfl 67 _ rfl #[.map none] (by rw [← built67]; first | (simp; done) | (simp; rfl)) ?_)
    | (with_reducible change wpList _ _ _ ({ dst := some 6, op := _, type := _, pos := _, after := _, guard := _ } :: _) _ _
       refine wpList_boxW (by rfl) 67 (.tmp 5) rfl (.agg #[.map none]) (.pointer (some ⟨b2, 0, none⟩)) rfl W2 hx67 ?_)
    | (with_reducible change wpList _ _ _ ({ dst := some 7, op := _, type := _, pos := _, after := _, guard := _ } :: _) _ _
       refine wpList_bsW (by rfl) 68 2 _ rfl #[(0, .pointer none), (1, .pointer (some ⟨b2, 0, none⟩))] (by simp only [List.map_toArray, List.map_cons, List.map_nil]; rfl) (.slice (some ⟨gr, 0, none⟩) 2 2) W3 hx68 ?_)
    | fail)
  clear hx67 hx68
  go_loopw [9] (fun u wr => ∃ i : Nat, u = iv (i : Int) ∧ Hid (i ≤ 2 ∧ Below W3.heap.size W3 wr)) (fun u _ => 2 - (intOf u).toNat)
  case atStart => exact ⟨0, rfl, by omega, Below.refl _ _⟩
  case round =>
    obtain ⟨X, hX⟩ : ∃ X, X = wr := ⟨_, rfl⟩
    subst hX
    obtain ⟨i, rfl, HR⟩ := hrel
    by_cases hi : i < 2
    · have q1 : (i : Int) < 2 := by omega
      have HJ : Hid (i < 2) := hi
      obtain ⟨g, hg, hun⟩ : ∃ g, [Value.pointer none, .pointer (some ⟨b2, 0, none⟩)][i]? = some g ∧ Un W3 g := by
        rcases (show i = 0 ∨ i = 1 by omega) with rfl | rfl
        · exact ⟨_, rfl, .inl rfl⟩
        · exact ⟨_, rfl, .inr ⟨b2, rfl, S3.out.2.2.1⟩⟩
      have cg : X.cell? ⟨gr, i, none⟩ = some g := (S3.out.2.2.2.below HR.out.2 S3.out.2.2.2.lt).cell hg
      have N0 : Hid (NP w X d1 a g) := ⟨below_tr S3.out.1 HR.out.2, S3.out.2.1.below HR.out.2 S3.out.2.1.lt, hun.below HR.out.2, HVS.out.below (below_tr S3.out.1 HR.out.2)⟩
      have HX0 : Hid (Below W3.heap.size W3 X) := HR.out.2
      clear hg hun hi HR
      have R0 := hid_of (AV.ranges N0.out.2.1 HA.out.1.1 HA.out.2.1.1)
      rw [HCU.out, HCD.out, HCY.out] at R0
      have c67 : X.cell? ⟨d1, 67, none⟩ = some (.slice a.ia a.inn a.ic) := R0.out.2.2.2.1
      have c68 : X.cell? ⟨d1, 68, none⟩ = some (.slice a.ta a.tn a.tc) := R0.out.2.2.2.2.1
      go_wp2_with (first
        | (with_reducible change wpList _ _ _ ({ dst := some 15, op := _, type := _, pos := _, after := _, guard := _ } :: _) _ _
           refine wpList_load_want rfl 34 (.tmp 14) rfl d1 1 rfl CU _ R0.out.2.1 Try.underlying34 rfl HI.out.1 ?_)
        | (with_reducible change wpList _ _ _ ({ dst := some 17, op := _, type := _, pos := _, after := _, guard := _ } :: _) _ _
           refine wpList_load_want rfl 34 (.tmp 16) rfl d1 34 rfl CD _ R0.out.2.2.1 Try.underlying34 rfl HI.out.2.1 ?_)
        | fail)
      clear cg
      refine (add_un N0.out.2.2.1 a.up a.dn HA.out.1 HA.out.2.1 a.ia a.inn a.ic a.ids N0.out.2.2.2 HA.out.2.2.2 _ CU CD HCU.out HCD.out).mono ?_
      rintro e V1 ⟨rfl, hb⟩
      have B1 : Hid (Below W3.heap.size W3 V1) := HX0.out.trans (hb.mono HX0.out.size)
      have N1 : Hid (NP w V1 d1 a g) := N0.out.step hb
      clear hb c67 c68 R0
      have R1 := hid_of (AV.ranges N1.out.2.1 HA.out.1.1 HA.out.2.1.1)
      rw [HCU.out, HCD.out, HCY.out] at R1
      have c67 : V1.cell? ⟨d1, 67, none⟩ = some (.slice a.ia a.inn a.ic) := R1.out.2.2.2.1
      have c68 : V1.cell? ⟨d1, 68, none⟩ = some (.slice a.ta a.tn a.tc) := R1.out.2.2.2.2.1
      go_wp2_with (first
        | fail)
      refine (drop_un N1.out.2.2.1 a.ia a.inn a.ic a.ids N1.out.2.2.2 HA.out.2.2.2).mono ?_
      rintro e V2 ⟨rfl, hb⟩
      have B2 : Hid (Below W3.heap.size W3 V2) := B1.out.trans (hb.mono B1.out.size)
      have N2 : Hid (NP w V2 d1 a g) := N1.out.step hb
      clear hb c67 c68 R1
      have R2 := hid_of (AV.ranges N2.out.2.1 HA.out.1.1 HA.out.2.1.1)
      rw [HCU.out, HCD.out, HCY.out] at R2
      have c67 : V2.cell? ⟨d1, 67, none⟩ = some (.slice a.ia a.inn a.ic) := R2.out.2.2.2.1
      have c68 : V2.cell? ⟨d1, 68, none⟩ = some (.slice a.ta a.tn a.tc) := R2.out.2.2.2.2.1
      go_wp2_with (first
        | (with_reducible change wpList _ _ _ ({ dst := some 34, op := _, type := _, pos := _, after := _, guard := _ } :: _) _ _
           refine wpList_load_want rfl 34 (.tmp 33) rfl d1 1 rfl CU _ R2.out.2.1 Try.underlying34 rfl HI.out.1 ?_)
        | (with_reducible change wpList _ _ _ ({ dst := some 36, op := _, type := _, pos := _, after := _, guard := _ } :: _) _ _
           refine wpList_load_want rfl 32 (.tmp 35) rfl d1 69 rfl CY _ R2.out.2.2.2.2.2 Try.underlying32 rfl HI.out.2.2 ?_)
        | fail)
      refine (kill_un N2.out.2.2.1 a.up HA.out.1 a.by_ HA.out.2.2.1 CU HCU.out CY HCY.out).mono ?_
      rintro e V3 ⟨rfl, hb⟩
      have B3 : Hid (Below W3.heap.size W3 V3) := B2.out.trans (hb.mono B2.out.size)
      have N3 : Hid (NP w V3 d1 a g) := N2.out.step hb
      clear hb c67 c68 R2
      have R3 := hid_of (AV.ranges N3.out.2.1 HA.out.1.1 HA.out.2.1.1)
      rw [HCU.out, HCD.out, HCY.out] at R3
      have c67 : V3.cell? ⟨d1, 67, none⟩ = some (.slice a.ia a.inn a.ic) := R3.out.2.2.2.1
      have c68 : V3.cell? ⟨d1, 68, none⟩ = some (.slice a.ta a.tn a.tc) := R3.out.2.2.2.2.1
      go_wp2_with (first
        | (with_reducible change wpList _ _ _ ({ dst := some 43, op := _, type := _, pos := _, after := _, guard := _ } :: _) _ _
           refine wpList_load_want rfl 34 (.tmp 42) rfl d1 1 rfl CU _ R3.out.2.1 Try.underlying34 rfl HI.out.1 ?_)
        | (with_reducible change wpList _ _ _ ({ dst := some 45, op := _, type := _, pos := _, after := _, guard := _ } :: _) _ _
           refine wpList_load_want rfl 32 (.tmp 44) rfl d1 69 rfl CY _ R3.out.2.2.2.2.2 Try.underlying32 rfl HI.out.2.2 ?_)
        | fail)
      refine (unkill_un N3.out.2.2.1 a.up HA.out.1 a.by_ HA.out.2.2.1 CU HCU.out CY HCY.out).mono ?_
      rintro e V4 ⟨rfl, hb⟩
      have B4 : Hid (Below W3.heap.size W3 V4) := B3.out.trans (hb.mono B3.out.size)
      have N4 : Hid (NP w V4 d1 a g) := N3.out.step hb
      clear hb c67 c68 R3
      have R4 := hid_of (AV.ranges N4.out.2.1 HA.out.1.1 HA.out.2.1.1)
      rw [HCU.out, HCD.out, HCY.out] at R4
      have c67 : V4.cell? ⟨d1, 67, none⟩ = some (.slice a.ia a.inn a.ic) := R4.out.2.2.2.1
      have c68 : V4.cell? ⟨d1, 68, none⟩ = some (.slice a.ta a.tn a.tc) := R4.out.2.2.2.2.1
      go_wp2_with (first
        | (with_reducible change wpList _ _ _ ({ dst := some 51, op := _, type := _, pos := _, after := _, guard := _ } :: _) _ _
           refine wpList_load_want rfl 34 (.tmp 50) rfl d1 1 rfl CU _ R4.out.2.1 Try.underlying34 rfl HI.out.1 ?_)
        | fail)
      refine (has_un N4.out.2.2.1 a.up HA.out.1 CU HCU.out).mono ?_
      rintro e V5 ⟨rfl, hb⟩
      have B5 : Hid (Below W3.heap.size W3 V5) := B4.out.trans (hb.mono B4.out.size)
      have N5 : Hid (NP w V5 d1 a g) := N4.out.step hb
      clear hb c67 c68 R4
      have R5 := hid_of (AV.ranges N5.out.2.1 HA.out.1.1 HA.out.2.1.1)
      rw [HCU.out, HCD.out, HCY.out] at R5
      have c67 : V5.cell? ⟨d1, 67, none⟩ = some (.slice a.ia a.inn a.ic) := R5.out.2.2.2.1
      have c68 : V5.cell? ⟨d1, 68, none⟩ = some (.slice a.ta a.tn a.tc) := R5.out.2.2.2.2.1
      go_wp2_with (first
        | (with_reducible change wpList _ _ _ ({ dst := some 55, op := _, type := _, pos := _, after := _, guard := _ } :: _) _ _
           refine wpList_built_want (by rfl) 34 _ rfl CT.toArray (by rw [← hb1]; first | (simp; done) | (simp; rfl)) ?_)
        | (with_reducible change wpList _ _ _ ({ dst := some 56, op := _, type := _, pos := _, after := _, guard := _ } :: _) _ _
           refine wpList_built_want (by rfl) 34 _ rfl CB.toArray (by rw [← hb2]; first | (simp; done) | (simp; rfl)) ?_)
        | fail)
      refine (ahead_un N5.out.2.2.1 vTop vBot vTop_k vBot_k CT CB HCT.out HCB.out).mono ?_
      rintro e V6 ⟨rfl, hb⟩
      have B6 : Hid (Below W3.heap.size W3 V6) := B5.out.trans (hb.mono B5.out.size)
      have N6 : Hid (NP w V6 d1 a g) := N5.out.step hb
      clear hb c67 c68 R5
      go_wp2_with fail
      refine (len_un N6.out.2.2.1).mono ?_
      rintro e Vx_ ⟨rfl, rfl⟩
      go_wp2_with fail
      refine (shown_un N6.out.2.2.1).mono ?_
      rintro e Vx_ ⟨rfl, rfl⟩
      go_wp2_with fail
      refine (text_un N6.out.2.2.1).mono ?_
      rintro e Vx_ ⟨rfl, rfl⟩
      go_wp2_with fail
      refine (conflicts_un N6.out.2.2.1).mono ?_
      rintro e Vx_ ⟨rfl, rfl⟩
      go_wp2_with fail
      refine (clone_un N6.out.2.2.1).mono ?_
      rintro e Vx_ ⟨rfl, rfl⟩
      go_wp2
      refine ⟨⟨i + 1, by simp, HJ.out, B6.out⟩, ?_⟩
      have := HJ.out; simp [intOf]; omega
    · have q1 : ¬ (i : Int) < 2 := by omega
      have HE : Hid (Below w.heap.size w X) := below_tr S3.out.1 HR.out.2
      clear HR hi
      go_wp2_with fail
      refine (lives_is X).mono ?_
      rintro e V ⟨rfl, hb⟩
      have HE2 : Hid (Below w.heap.size w V) := below_tr HE.out hb
      clear hb
      go_wp2
      go_ret
      exact ⟨rfl, HE2.out⟩
end Go.Proofs.Ytjcihaohpbmogaa.Oct
