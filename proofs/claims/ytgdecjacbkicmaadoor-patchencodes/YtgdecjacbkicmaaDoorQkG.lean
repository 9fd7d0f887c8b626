/-
  Layer 2 (hash): the reference's rotation and its table.
  Layer 2 (hash): the reference's block.
  Layer 2 (hash): the reference's block, walked.
-/
import Derived.Test.YtgdecjacbkicmaaDoorQkE
import Derived.Test.YtgdecjacbkicmaaDoorQkF
/- Layer 2 (hash): the reference's rotation and its table. -/
namespace Go.Proofs.YtgdecjacbkicmaaDoor.Hsh
open Go.RowKit Sha

theorem rrot_eq (x : UInt32) (n : Nat) : bits BinOp.or IntKind.u32 ((x.toNat : Int) / 2 ^ n) ((x.toNat : Int) * 2 ^ (32 - n) % 4294967296) = ((rotr x n).toNat : Int) := by
  have e1 : (x.toNat : Int) * 2 ^ (32 - n) % 4294967296 = ((x.toNat * 2 ^ (32 - n) % 4294967296 : Nat) : Int) := by simp
  have e2 : (x.toNat : Int) / 2 ^ n = ((x.toNat / 2 ^ n : Nat) : Int) := by simp
  have b1 : x.toNat * 2 ^ (32 - n) % 4294967296 < 4294967296 := Nat.mod_lt _ (by omega)
  have b2 : x.toNat / 2 ^ n < 4294967296 := Nat.lt_of_le_of_lt (Nat.div_le_self _ _) (lt32 x)
  rw [e1, e2, u32_or_nat _ _ b2 b1]
  unfold rotr
  rw [toNat32 (Nat.or_lt_two_pow (n := 32) b1 b2), Nat.or_comm]

theorem rrot_is (x : UInt32) (n : Nat) (w : World) (h1 : 1 ≤ n) (h2 : n ≤ 31) :
    Calls Tryd.prog 56 #[.int .u32 (x.toNat : Int), .int .i64 (n : Int)] w fun e w' => e = .returned (.int .u32 ((rotr x n).toNat : Int)) ∧ w = w' := by
  have q1 : (1 : Int) ≤ (n : Int) := by omega
  have q2 : (n : Int) ≤ 31 := by omega
  have q3 : (x.toNat : Int) < 4294967296 := by have := lt32 x; omega
  obtain ⟨m, hm⟩ : ∃ m, m = 32 - n := ⟨_, rfl⟩
  have q4 : 32 - (n : Int) = (m : Int) := by omega
  have q5 : (m : Int) ≤ 31 := by omega
  have q6 : (1 : Int) ≤ (m : Int) := by omega
  have HE : Hid _ := rrot_eq x n
  rw [← hm] at HE
  obtain ⟨X, hX⟩ : ∃ X, X = x.toNat := ⟨_, rfl⟩
  rw [← hX] at q3 HE ⊢
  clear hX hm
  go_enter Tryd.func56, Tryd.ntmps56
  go_wp2
  go_ret
  exact ⟨congrArg (fun z => Ending.returned (Value.int IntKind.u32 z)) HE.out, rfl⟩

theorem zero52 : ∀ W, (zeroValue 74).run Tryd.prog W = .ok (.agg (zw 64).toArray) W := by
  intro W
  have h : (Tryd.prog.info? 74).bind (·.zero) = some (.agg (zw 64).toArray) := by kernel_rfl
  obtain ⟨i, hi, hz⟩ := Option.bind_eq_some_iff.1 h
  simp only [zeroValue, typeInfo]
  simp [hi, hz]
theorem size52 : (Tryd.prog.info? 74).map (·.size) = some 64 := by kernel_rfl
theorem V_one (l : List UInt32) : ∀ v ∈ V l, v.oneCell' = true := by
  intro v hv
  simp only [V, List.mem_map] at hv
  obtain ⟨x, _, rfl⟩ := hv
  rfl
theorem stored52 {w : World} {b : Nat} {cells : List Value} (hl : cells.length = 64) (h : Blk w b 74 ((zw 64).take 0 ++ cells ++ (zw 64).drop (0 + cells.length))) : Blk w b 74 cells := by
  rw [List.drop_eq_nil_of_le (by rw [zw_length]; omega)] at h
  simpa using h

set_option maxRecDepth 100000 in
theorem roots_is (w : World) : Calls Tryd.prog 33 #[] w fun e w' => e = .returned (.agg (V kTab).toArray) ∧ Below w.heap.size w w' := by
  have hz := zero52
  obtain ⟨KL, hKL⟩ : ∃ KL, V kTab = KL := ⟨_, rfl⟩
  have HKL : Hid (V kTab = KL) := hKL
  have HL : Hid (KL.length = 64) := by rw [← hKL]; rfl
  have HO : Hid (∀ v ∈ KL, v.oneCell' = true) := by rw [← hKL]; exact V_one _
  generalize hZ : zw 64 = Z at hz
  have HZ : Hid (zw 64 = Z) := hZ
  have HZL : Hid (Z.length = 64) := by rw [← hZ]; exact zw_length 64
  clear hZ hKL
  go_enter Tryd.func33, Tryd.ntmps33
  go_wp2_with (first
    | (refine wpList_built rfl 74 _ rfl KL.toArray (by rw [← HKL.out]; kernel_rfl) ?_)
    | (refine wpList_store_blk rfl 74 (.tmp 0) (.tmp 1) rfl w.heap.size 0 74 Z KL rfl rfl (Blk.new w Z.toArray 74) (by rw [HL.out, HZL.out]; omega) (by rw [size52, HL.out]) HO.out ?_; intro w2 hB2 hG2))
  have HR : Hid (w2.heap[w.heap.size]? = some (.cells KL.toArray 74 (0, 0))) := by
    have e := hB2.out
    rw [← HZ.out] at e
    exact stored52 HL.out e
  refine bodyPost_ret (v := .agg KL.toArray) (results_cell_row rfl _ _ w.heap.size 74 _ (0, 0) _ rfl HR.out Tryd.underlying74 rfl (by rw [size52, List.size_toArray, HL.out])) rfl ⟨by rw [HKL.out], ?_⟩
  exact ((Below.refl _ w).alloc (Nat.le_refl _) _).grown hG2.out (by simp) (by intro k hk; have := Option.some.inj hk; omega)
end Go.Proofs.YtgdecjacbkicmaaDoor.Hsh

/- Layer 2 (hash): the reference's block. -/
namespace Go.Proofs.YtgdecjacbkicmaaDoor.Hsh
open Go.RowKit Sha

theorem zero44 : ∀ W, (zeroValue 73).run Tryd.prog W = .ok (.agg (zw 8).toArray) W := by
  intro W
  have h : (Tryd.prog.info? 73).bind (·.zero) = some (.agg (zw 8).toArray) := by kernel_rfl
  obtain ⟨i, hi, hz⟩ := Option.bind_eq_some_iff.1 h
  simp only [zeroValue, typeInfo]
  simp [hi, hz]
theorem size44 : (Tryd.prog.info? 73).map (·.size) = some 8 := by kernel_rfl
theorem built52z : Tryd.prog.built 74 [] = some (zw 64).toArray := by kernel_rfl

/-- the reference's blocks: the state, the table, the result's place, the words -/
def RInv (w : World) (s : St) (L : List Value) (wr : World) : Prop := Blk wr w.heap.size 73 (V s.words) ∧ Blk wr (w.heap.size + 1) 74 (V kTab) ∧ Blk wr (w.heap.size + 1 + 1) 73 (zw 8) ∧ Blk wr (w.heap.size + 1 + 1 + 1) 74 L ∧ Below w.heap.size w wr
theorem RInv.store {w wr : World} {s : St} {L : List Value} (h : RInv w s L wr) (t : Nat) (v : Value) : RInv w s (L.set t v) (wr.setCell ⟨w.heap.size + 1 + 1 + 1, t, none⟩ v) :=
  ⟨h.1.other (show w.heap.size ≠ w.heap.size + 1 + 1 + 1 by omega) v, h.2.1.other (show w.heap.size + 1 ≠ w.heap.size + 1 + 1 + 1 by omega) v, h.2.2.1.other (show w.heap.size + 1 + 1 ≠ w.heap.size + 1 + 1 + 1 by omega) v, h.2.2.2.1.set t v, h.2.2.2.2.setCell (show w.heap.size ≤ w.heap.size + 1 + 1 + 1 by omega) v⟩
theorem RInv.drawN {w wr : World} {s : St} {L : List Value} (h : RInv w s L wr) (n : Nat) : RInv w s L (wr.drewN n) := ⟨h.1, h.2.1, h.2.2.1, h.2.2.2.1, ⟨h.2.2.2.2.os, h.2.2.2.2.tape, h.2.2.2.2.output, h.2.2.2.2.size, h.2.2.2.2.block⟩⟩
theorem RInv.drew {w wr : World} {s : St} {L : List Value} (h : RInv w s L wr) : RInv w s L wr.drew := h.drawN 1
/-- four new blocks -/
theorem four_new (w : World) (A B C D : Array Value) (ta tb tc td : TypeId) :
    Blk ((((w.alloc (.cells A ta)).alloc (.cells B tb)).alloc (.cells C tc)).alloc (.cells D td)) w.heap.size ta A.toList ∧
    Blk ((((w.alloc (.cells A ta)).alloc (.cells B tb)).alloc (.cells C tc)).alloc (.cells D td)) (w.heap.size + 1) tb B.toList ∧
    Blk ((((w.alloc (.cells A ta)).alloc (.cells B tb)).alloc (.cells C tc)).alloc (.cells D td)) (w.heap.size + 1 + 1) tc C.toList ∧
    Blk ((((w.alloc (.cells A ta)).alloc (.cells B tb)).alloc (.cells C tc)).alloc (.cells D td)) (w.heap.size + 1 + 1 + 1) td D.toList ∧
    Below w.heap.size w ((((w.alloc (.cells A ta)).alloc (.cells B tb)).alloc (.cells C tc)).alloc (.cells D td)) := by
  have e1 : (w.alloc (.cells A ta)).heap.size = w.heap.size + 1 := by simp
  have e2 : ((w.alloc (.cells A ta)).alloc (.cells B tb)).heap.size = w.heap.size + 1 + 1 := by simp
  have e3 : (((w.alloc (.cells A ta)).alloc (.cells B tb)).alloc (.cells C tc)).heap.size = w.heap.size + 1 + 1 + 1 := by simp
  refine ⟨(((Blk.new w A ta).alloc _).alloc _).alloc _, ?_, ?_, ?_, ((((Below.refl _ w).alloc (Nat.le_refl _) _).alloc (by rw [e1]; omega) _).alloc (by rw [e2]; omega) _).alloc (by rw [e3]; omega) _⟩
  · have h := ((Blk.new (w.alloc (.cells A ta)) B tb).alloc (.cells C tc)).alloc (.cells D td)
    rw [e1] at h; exact h
  · have h := (Blk.new ((w.alloc (.cells A ta)).alloc (.cells B tb)) C tc).alloc (.cells D td)
    rw [e2] at h; exact h
  · have h := Blk.new (((w.alloc (.cells A ta)).alloc (.cells B tb)).alloc (.cells C tc)) D td
    rw [e3] at h; exact h

/-- the same behind the words: what is reckoned so far in block N4 -/
def R4 (w : World) (s : St) (bs : List UInt8) (N4 : Nat) (L : List UInt32) (wr : World) : Prop := Blk wr w.heap.size 73 (V s.words) ∧ Blk wr (w.heap.size + 1) 74 (V kTab) ∧ Blk wr (w.heap.size + 1 + 1) 73 (zw 8) ∧ Blk wr (w.heap.size + 1 + 1 + 1) 74 (V (wordsOf bs)) ∧ Blk wr N4 73 (V L) ∧ Below w.heap.size w wr ∧ w.heap.size + 1 + 1 + 1 < N4
def R3 (w : World) (s : St) (bs : List UInt8) (N4 : Nat) (r : St) (wr : World) : Prop := R4 w s bs N4 r.words wr
theorem R4.drawN {w wr : World} {s : St} {bs : List UInt8} {L : List UInt32} {N4 : Nat} (h : R4 w s bs N4 L wr) (n : Nat) : R4 w s bs N4 L (wr.drewN n) := ⟨h.1, h.2.1, h.2.2.1, h.2.2.2.1, h.2.2.2.2.1, ⟨h.2.2.2.2.2.1.os, h.2.2.2.2.2.1.tape, h.2.2.2.2.2.1.output, h.2.2.2.2.2.1.size, h.2.2.2.2.2.1.block⟩, h.2.2.2.2.2.2⟩
theorem R4.drew {w wr : World} {s : St} {bs : List UInt8} {L : List UInt32} {N4 : Nat} (h : R4 w s bs N4 L wr) : R4 w s bs N4 L wr.drew := h.drawN 1
theorem R3.drawN {w wr : World} {s r : St} {bs : List UInt8} {N4 : Nat} (h : R3 w s bs N4 r wr) (n : Nat) : R3 w s bs N4 r (wr.drewN n) := R4.drawN h n
theorem R4.stored {w wr w9 : World} {s : St} {bs : List UInt8} {L L' : List UInt32} {N4 : Nat} (h : R4 w s bs N4 L wr) (hB : Blk w9 N4 73 (V L')) (hG : wr.grownBy w9 (some N4)) : R4 w s bs N4 L' w9 := by
  have hN := h.2.2.2.2.2.2
  refine ⟨h.1.kept hG ?_, h.2.1.kept hG ?_, h.2.2.1.kept hG ?_, h.2.2.2.1.kept hG ?_, hB, h.2.2.2.2.2.1.grown hG h.2.2.2.2.2.1.size ?_, hN⟩
  all_goals intro e
  · have := Option.some.inj e; omega
  · have := Option.some.inj e; omega
  · have := Option.some.inj e; omega
  · have := Option.some.inj e; omega
  · intro e2; have := Option.some.inj e2; omega
theorem R3.stored {w wr w9 : World} {s r r' : St} {bs : List UInt8} {N4 : Nat} (h : R3 w s bs N4 r wr) (hB : Blk w9 N4 73 (V r'.words)) (hG : wr.grownBy w9 (some N4)) : R3 w s bs N4 r' w9 := R4.stored h hB hG
theorem R4.store {w wr : World} {s : St} {bs : List UInt8} {L : List UInt32} {N4 : Nat} (h : R4 w s bs N4 L wr) (k : Nat) (z : UInt32) : R4 w s bs N4 (L.set k z) (wr.setCell ⟨N4, k, none⟩ (.int .u32 (z.toNat : Int))) := by
  refine R4.stored h ?_ (grown_setCell wr N4 k _)
  have e := h.2.2.2.2.1.set k (.int .u32 (z.toNat : Int))
  have e2 : (V L).set k (.int .u32 (z.toNat : Int)) = V (L.set k z) := by simp [V, List.map_set]
  rw [e2] at e
  exact e
def plusTo (a b : List UInt32) (k : Nat) : List UInt32 := (List.zipWith (· + ·) a b).take k ++ a.drop k
theorem plusTo_all (r s : St) : plusTo r.words s.words 8 = (s.plus r).words := by
  simp [plusTo, St.words, St.plus, UInt32.add_comm]
theorem plusTo_get (a b : List UInt32) (k : Nat) (ha : a.length = 8) (hb : b.length = 8) (hk : k < 8) : (V (plusTo a b k))[k]? = some (.int .u32 ((a.getD k 0).toNat : Int)) := by
  have hl : ((List.zipWith (· + ·) a b).take k).length = k := by simp; omega
  unfold plusTo V
  rw [List.map_append, List.getElem?_append_right (by rw [List.length_map, hl]; exact Nat.le_refl _), List.length_map, hl, Nat.sub_self, List.getElem?_map, List.getElem?_drop, Nat.add_zero, List.getElem?_eq_getElem (by omega)]
  simp [List.getD, show k < a.length by omega]
theorem plusTo_next (a b : List UInt32) (k : Nat) (ha : a.length = 8) (hb : b.length = 8) (hk : k < 8) : plusTo a b (k + 1) = (plusTo a b k).set k (a.getD k 0 + b.getD k 0) := by
  have hl : ((List.zipWith (· + ·) a b).take k).length = k := by simp; omega
  unfold plusTo
  rw [List.set_append_right _ _ (by rw [hl]; exact Nat.le_refl _), hl, Nat.sub_self, List.take_succ_eq_append_getElem (by simp; omega), List.append_assoc]
  congr 1
  rw [List.drop_eq_getElem_cons (show k < a.length by omega), List.set_cons_zero]
  simp [List.getD, show k < a.length by omega, show k < b.length by omega]
theorem built44 (n0 n1 n2 n3 n4 n5 n6 n7 : Int) : Tryd.prog.built 73 [(0, .int .u32 n0), (1, .int .u32 n1), (2, .int .u32 n2), (3, .int .u32 n3), (4, .int .u32 n4), (5, .int .u32 n5), (6, .int .u32 n6), (7, .int .u32 n7)] = some [Value.int .u32 n0, .int .u32 n1, .int .u32 n2, .int .u32 n3, .int .u32 n4, .int .u32 n5, .int .u32 n6, .int .u32 n7].toArray := by kernel_rfl

theorem wpList_built8 {ops : Array Oper} {rest : List Oper} {o : Oper} {a : Act} {w : World} {Q : Exit → Act → World → Prop} (hg : o.guard = none) (p0 p1 p2 p3 p4 p5 p6 p7 : Operand)
    (ho : o.op = .build 73 #[(0, p0), (1, p1), (2, p2), (3, p3), (4, p4), (5, p5), (6, p6), (7, p7)]) (n0 n1 n2 n3 n4 n5 n6 n7 : Int)
    (e0 : a.eval p0 = .int .u32 n0) (e1 : a.eval p1 = .int .u32 n1) (e2 : a.eval p2 = .int .u32 n2) (e3 : a.eval p3 = .int .u32 n3) (e4 : a.eval p4 = .int .u32 n4) (e5 : a.eval p5 = .int .u32 n5) (e6 : a.eval p6 = .int .u32 n6) (e7 : a.eval p7 = .int .u32 n7)
    (h : wpList Tryd.prog ops Q rest (a.put o.dst (.agg [Value.int .u32 n0, .int .u32 n1, .int .u32 n2, .int .u32 n3, .int .u32 n4, .int .u32 n5, .int .u32 n6, .int .u32 n7].toArray)) w) : wpList Tryd.prog ops Q (o :: rest) a w := by
  refine wpList_built hg 73 _ ho _ ?_ h
  simp [e0, e1, e2, e3, e4, e5, e6, e7]
  exact built44 _ _ _ _ _ _ _ _

end Go.Proofs.YtgdecjacbkicmaaDoor.Hsh

/- Layer 2 (hash): the reference's block, walked. -/
namespace Go.Proofs.YtgdecjacbkicmaaDoor.Hsh
open Go.RowKit Sha

set_option maxHeartbeats 20000000 in
set_option maxRecDepth 100000 in
theorem block_is (s : St) (bs : List UInt8) (a : Option Addr) (cp : Nat) (w : World) (hin : In w a 64 cp bs) :
    Calls Tryd.prog 34 #[.agg (V s.words).toArray, .slice a 64 cp, .agg (V kTab).toArray] w fun e w' => e = .returned (.agg (V (Sha.step s bs).words).toArray) ∧ Below w.heap.size w w' := by
  have HIN : Hid (In w a 64 cp bs) := hin
  have hz44 := zero44
  have hz52 := zero52
  obtain ⟨ba, oa, rfl, ha1, ha2⟩ := hin.2.2.2.2 (by omega)
  have HA1 : Hid (ba < w.heap.size) := ha1
  have HA2 : Hid (∀ i c, bs[i]? = some c → w.cell? ⟨ba, oa + i, none⟩ = some (.int .u8 (c.toNat : Int))) := ha2
  have HLB : Hid (bs.length = 64) := hin.1
  have hcap := hin.2.1
  obtain ⟨SA, hSA⟩ : ∃ SA, V s.words = SA := ⟨_, rfl⟩
  have HSA : Hid (V s.words = SA) := hSA
  obtain ⟨KL, hKL⟩ : ∃ KL, V kTab = KL := ⟨_, rfl⟩
  have HKL : Hid (V kTab = KL) := hKL
  rw [hSA, hKL]
  obtain ⟨Z8, hZ8⟩ : ∃ Z8, zw 8 = Z8 := ⟨_, rfl⟩
  have HZ8 : Hid (zw 8 = Z8) := hZ8
  rw [hZ8] at hz44
  obtain ⟨Z, hZ⟩ : ∃ Z, zw 64 = Z := ⟨_, rfl⟩
  have HZ : Hid (zw 64 = Z) := hZ
  rw [hZ] at hz52
  have HBT : Hid (Tryd.prog.built 74 [] = some Z.toArray) := by rw [← hZ]; exact built52z
  have HZL : Hid (Z.length = 64) := by rw [← hZ]; exact zw_length 64
  have HZO : Hid (∀ v ∈ Z, v.oneCell' = true) := by rw [← hZ]; intro v hv; rw [List.eq_of_mem_replicate hv]; rfl
  clear hin ha1 ha2 hSA hKL hZ8 hZ
  go_enter Tryd.func34, Tryd.ntmps34
  go_wp2_with (first
    | (refine wpList_built rfl 74 _ rfl Z.toArray (by simp; exact HBT.out) ?_)
    | (refine Go.Great.wpList_boxTo rfl 73 (.tmp 0) rfl _ rfl w.heap.size rfl SA.toArray rfl ?_)
    | (refine Go.Great.wpList_boxTo rfl 74 (.tmp 2) rfl _ rfl (w.heap.size + 1) (by simp) KL.toArray rfl ?_)
    | (refine wpList_store_blk rfl 74 (.tmp 7) (.tmp 17) rfl (w.heap.size + 1 + 1 + 1) 0 74 Z Z rfl rfl (four_new w SA.toArray KL.toArray Z8.toArray Z.toArray 73 74 73 74).2.2.2.1 (by rw [HZL.out]; omega) (by rw [size52, HZL.out]) HZO.out ?_; intro w2 hB2 hG2))
  have HR0 : Hid (RInv w s (V (firstTo bs 0) ++ zw (64 - 0)) w2) := by
    obtain ⟨f1, f2, f3, f4, f5⟩ := four_new w SA.toArray KL.toArray Z8.toArray Z.toArray 73 74 73 74
    refine ⟨?_, ?_, ?_, ?_, ?_⟩
    · rw [HSA.out]; exact f1.kept hG2.out (by intro e; have := Option.some.inj e; omega)
    · rw [HKL.out]; exact f2.kept hG2.out (by intro e; have := Option.some.inj e; omega)
    · rw [HZ8.out]; exact f3.kept hG2.out (by intro e; have := Option.some.inj e; omega)
    · have e := hB2.out
      rw [← HZ.out] at e
      exact stored52 (zw_length 64) e
    · exact f5.grown hG2.out (by simp; omega) (by intro k hk; have := Option.some.inj hk; omega)
  clear hB2 hG2
  go_wp2_with fail
  go_loopw [8] (fun i wr => ∃ t : Nat, i = .int .i64 t ∧ t ≤ 16 ∧ Hid (RInv w s (V (firstTo bs t) ++ zw (64 - t)) wr)) (fun i _ => 16 - (intOf i).toNat)
  case atStart => exact ⟨0, rfl, by omega, HR0.out⟩
  case round =>
    obtain ⟨t, rfl, ht, hr⟩ := hrel
    by_cases hlt : t = 16
    · have q1 : (16 : Int) ≤ (t : Int) := by omega
      subst hlt
      clear ht
      go_wp2_with fail
      go_loopw [9] (fun i wr => ∃ u : Nat, i = .int .i64 ((u : Int) + 16) ∧ u ≤ 48 ∧ Hid (RInv w s (V (moreTo bs u) ++ zw (64 - (u + 16))) wr)) (fun i _ => 64 - (intOf i).toNat)
      case atStart => exact ⟨0, rfl, by omega, hr.out⟩
      case round =>
        clear hr
        obtain ⟨u, rfl, hu, hr⟩ := hrel
        by_cases hlt : u = 48
        · have q2 : (48 : Int) ≤ (u : Int) := by omega
          subst hlt
          have HB3 : Hid (Blk wr (w.heap.size + 1 + 1 + 1) 74 (V (wordsOf bs))) := by
            have e := hr.out.2.2.2.1
            have ez : zw (64 - (48 + 16)) = [] := rfl
            rw [ez, List.append_nil] at e
            exact e
          have HBS : Hid (Blk wr w.heap.size 73 SA) := by rw [← HSA.out]; exact hr.out.1
          have HSL : Hid (SA.length = 8) := by rw [← HSA.out]; rfl
          have HSO : Hid (∀ v ∈ SA, v.oneCell' = true) := by rw [← HSA.out]; exact V_one _
          have HZ8L : Hid (Z8.length = 8) := by rw [← HZ8.out]; exact zw_length 8
          have HN4 : Hid (w.heap.size + 1 + 1 + 1 < wr.heap.size) := HB3.out.lt
          clear q2 hz52
          go_wp2_with (first
            | (refine wpList_load_row rfl 73 (.tmp 3) rfl w.heap.size rfl 73 SA.toArray (0, 0) _ HBS.out Tryd.underlying73 rfl (by rw [size44, List.size_toArray, HSL.out]) ?_)
            | (refine wpList_store_blk rfl 73 (.tmp 12) (.tmp 98) rfl wr.heap.size 0 73 Z8 SA rfl rfl (Blk.new wr Z8.toArray 73) (by rw [HSL.out, HZ8L.out]; omega) (by rw [size44, HSL.out]) HSO.out ?_; intro w4 hB4 hG4))
          obtain ⟨N4, hN4⟩ : ∃ N4, N4 = wr.heap.size := ⟨_, rfl⟩
          rw [← hN4] at hB4 hG4 HN4 ⊢
          have HR4 : Hid (R3 w s bs N4 s w4) := by
            have hal := (Below.refl wr.heap.size wr).alloc (Nat.le_refl _) (.cells Z8.toArray 73)
            have kb : ∀ {b : Nat} {t : TypeId} {L : List Value}, Blk wr b t L → b ≠ N4 → Blk w4 b t L := fun h hne => (h.alloc _).kept hG4.out (fun e => hne (Option.some.inj e))
            have hN := HN4.out
            refine ⟨kb hr.out.1 (by omega), kb hr.out.2.1 (by omega), kb hr.out.2.2.1 (by omega), kb HB3.out (by omega), ?_, ?_, hN⟩
            · have e := hB4.out
              rw [HSA.out]
              rw [List.drop_eq_nil_of_le (by rw [HZ8L.out, HSL.out]; omega), List.append_nil] at e
              simpa using e
            · have h5 := hr.out.2.2.2.2
              exact (h5.alloc h5.size _).grown hG4.out (by simp; rw [← hN4]; omega) (by intro k hk; have := Option.some.inj hk; omega)
          clear hB4 hG4 hN4 hr HBS HB3
          go_loopw [13] (fun i wr => ∃ (t : Nat) (r : St), i = .int .i64 t ∧ t ≤ 64 ∧ Hid (r = rounds s (wordsOf bs) t) ∧ Hid (R3 w s bs N4 r wr)) (fun i _ => 64 - (intOf i).toNat)
          case atStart => exact ⟨0, s, rfl, by omega, rfl, HR4.out⟩
          case round =>
            obtain ⟨t, r, rfl, ht, hrr, hr⟩ := hrel
            by_cases hlt : t = 64
            · have q3 : (64 : Int) ≤ (t : Int) := by omega
              have HR : Hid (after s (wordsOf bs) = s.plus r) := by show _ = _; unfold after; rw [hrr.out, hlt]
              subst hlt
              clear hrr q3
              go_wp2_with fail
              go_loopw [16] (fun i wr => ∃ k : Nat, i = .int .i64 k ∧ k ≤ 8 ∧ Hid (R4 w s bs N4 (plusTo r.words s.words k) wr)) (fun i _ => 8 - (intOf i).toNat)
              case atStart => exact ⟨0, rfl, by omega, hr.out⟩
              case round =>
                clear hr
                obtain ⟨k, rfl, hk, hr⟩ := hrel
                by_cases hlt : k = 8
                · have q4 : (8 : Int) ≤ (k : Int) := by omega
                  subst hlt
                  have HF : Hid (plusTo r.words s.words 8 = (Sha.step s bs).words) := by
                    show _ = _
                    unfold Sha.step
                    rw [HR.out]
                    exact plusTo_all r s
                  have HFL : Hid ((V (Sha.step s bs).words).length = 8) := rfl
                  have HFB : Hid (Blk wr N4 73 (V (Sha.step s bs).words)) := by rw [← HF.out]; exact hr.out.2.2.2.2.1
                  clear q4
                  generalize hFV : V (Sha.step s bs).words = FV at *
                  have HFV : Hid (V (Sha.step s bs).words = FV) := hFV
                  have HFO : Hid (∀ v ∈ FV, v.oneCell' = true) := by rw [← hFV]; exact V_one _
                  clear hFV
                  go_wp2_with (first
                    | (refine wpList_load_row rfl 73 (.tmp 12) rfl N4 rfl 73 FV.toArray (0, 0) _ HFB.out Tryd.underlying73 rfl (by rw [size44, List.size_toArray, HFL.out]) ?_)
                    | (refine wpList_store_blk rfl 73 (.tmp 6) (.tmp 200) rfl (w.heap.size + 1 + 1) 0 73 (zw 8) FV rfl rfl hr.out.2.2.1 (by rw [HFL.out, zw_length]; omega) (by rw [size44, HFL.out]) HFO.out ?_; intro w9 hB9 hG9))
                  have HRC : Hid (w9.heap[w.heap.size + 1 + 1]? = some (.cells FV.toArray 73 (0, 0))) := by
                    have e := hB9.out
                    rw [List.drop_eq_nil_of_le (by rw [zw_length, HFL.out]; omega), List.append_nil] at e
                    exact e
                  refine bodyPost_ret (v := .agg FV.toArray) (results_cell_row rfl _ _ (w.heap.size + 1 + 1) 73 _ (0, 0) _ rfl HRC.out Tryd.underlying73 rfl (by rw [size44, List.size_toArray, HFL.out])) rfl ⟨by rw [HFV.out], ?_⟩
                  have h5 := hr.out.2.2.2.2.2.1
                  exact h5.grown hG9.out h5.size (by intro j hj; have := Option.some.inj hj; omega)
                · have q4 : (k : Int) < 8 := by omega
                  have HK : Hid (k < 8) := by show k < 8; omega
                  obtain ⟨x, hx⟩ : ∃ x, x = r.words.getD k 0 := ⟨_, rfl⟩
                  obtain ⟨y, hy⟩ : ∃ y, y = s.words.getD k 0 := ⟨_, rfl⟩
                  have c1 : wr.cell? ⟨N4, k, none⟩ = some (.int .u32 (x.toNat : Int)) := by rw [hx]; exact hr.out.2.2.2.2.1.cell (plusTo_get r.words s.words k rfl rfl HK.out)
                  have c2 : wr.cell? ⟨w.heap.size, k, none⟩ = some (.int .u32 (y.toNat : Int)) := by rw [hy]; exact hr.out.1.cell (V_get s.words k HK.out)
                  have c3 : wr.frozen? ⟨N4, k, none⟩ = false := hr.out.2.2.2.2.1.free _
                  have HS : Hid (plusTo r.words s.words (k + 1) = (plusTo r.words s.words k).set k (x + y)) := by rw [hx, hy]; exact plusTo_next r.words s.words k rfl rfl HK.out
                  obtain ⟨z, hz⟩ : ∃ z, z = x + y := ⟨_, rfl⟩
                  have m1 : ((x.toNat : Int) + (y.toNat : Int)) % 4294967296 = (z.toNat : Int) := by rw [hz]; exact addm x y
                  have m2 : IntKind.u32.wrap ((x.toNat : Int) + (y.toNat : Int)) = (z.toNat : Int) := by rw [hz]; exact add_eq x y
                  rw [← hz] at HS
                  clear hlt hx hy hz
                  go_wp2_with fail
                  go_region
                  go_wp2
                  go_roundw
                  case rel =>
                    have st := (hr.out.store k z).drew
                    rw [← HS.out] at st
                    first
                      | exact ⟨k + 1, by go_num, HK.out, st⟩
                      | ((repeat apply Exists.intro); exact ⟨⟨k + 1, by go_num, HK.out, st⟩, rfl⟩)
                  case measure => simp [intOf]; omega
            · have q3 : (t : Int) < 64 := by omega
              have HT : Hid (t < 64) := by show t < 64; omega
              have HRR : Hid (r = rounds s (wordsOf bs) t) := hrr
              obtain ⟨kt, hkt⟩ : ∃ kt, kt = kTab.getD t 0 := ⟨_, rfl⟩
              obtain ⟨wt, hwt⟩ : ∃ wt, wt = (wordsOf bs).getD t 0 := ⟨_, rfl⟩
              have ck : wr.cell? ⟨w.heap.size + 1, t, none⟩ = some (.int .u32 (kt.toNat : Int)) := by rw [hkt]; exact hr.out.2.1.cell (V_get kTab t HT.out)
              have cw : wr.cell? ⟨w.heap.size + 1 + 1 + 1, t, none⟩ = some (.int .u32 (wt.toNat : Int)) := by rw [hwt]; exact hr.out.2.2.2.1.cell (V_get (wordsOf bs) t (by show t < (moreTo bs 48).length; rw [moreTo_length]; exact HT.out))
              have e0 : wr.cell? ⟨N4, 0, none⟩ = some (.int .u32 (r.a.toNat : Int)) := hr.out.2.2.2.2.1.cell rfl
              have e1 : wr.cell? ⟨N4, 1, none⟩ = some (.int .u32 (r.b.toNat : Int)) := hr.out.2.2.2.2.1.cell rfl
              have e2 : wr.cell? ⟨N4, 2, none⟩ = some (.int .u32 (r.c.toNat : Int)) := hr.out.2.2.2.2.1.cell rfl
              have e3 : wr.cell? ⟨N4, 3, none⟩ = some (.int .u32 (r.d.toNat : Int)) := hr.out.2.2.2.2.1.cell rfl
              have e4 : wr.cell? ⟨N4, 4, none⟩ = some (.int .u32 (r.e.toNat : Int)) := hr.out.2.2.2.2.1.cell rfl
              have e5 : wr.cell? ⟨N4, 5, none⟩ = some (.int .u32 (r.f.toNat : Int)) := hr.out.2.2.2.2.1.cell rfl
              have e6 : wr.cell? ⟨N4, 6, none⟩ = some (.int .u32 (r.g.toNat : Int)) := hr.out.2.2.2.2.1.cell rfl
              have e7 : wr.cell? ⟨N4, 7, none⟩ = some (.int .u32 (r.h.toNat : Int)) := hr.out.2.2.2.2.1.cell rfl
              have HE : Hid (rounds s (wordsOf bs) (t + 1) = rnd r kt wt) := by show _ = _; rw [rounds, ← HRR.out, hkt, hwt]
              clear hlt hkt hwt hrr hz44
              go_wp2_with fail
              go_region_held (fun w' => w'.cell? ⟨w.heap.size + 1, t, none⟩ = some (.int .u32 (kt.toNat : Int)) ∧ w'.cell? ⟨w.heap.size + 1 + 1 + 1, t, none⟩ = some (.int .u32 (wt.toNat : Int)) ∧ w'.cell? ⟨N4, 4, none⟩ = some (.int .u32 (r.e.toNat : Int)) ∧ w'.cell? ⟨N4, 5, none⟩ = some (.int .u32 (r.f.toNat : Int)) ∧ w'.cell? ⟨N4, 6, none⟩ = some (.int .u32 (r.g.toNat : Int)) ∧ w'.cell? ⟨N4, 7, none⟩ = some (.int .u32 (r.h.toNat : Int))) (first | exact ⟨ck, cw, e4, e5, e6, e7⟩ | assumption)
                (first
                | (go_at_call_of 56 (Value.int IntKind.i64 6); refine (rrot_is r.e 6 _ (by omega) (by omega)).mono ?_; rintro e w1 ⟨rfl, rfl⟩)
                | (go_at_call_of 56 (Value.int IntKind.i64 11); refine (rrot_is r.e 11 _ (by omega) (by omega)).mono ?_; rintro e w1 ⟨rfl, rfl⟩)
                | (go_at_call_of 56 (Value.int IntKind.i64 25); refine (rrot_is r.e 25 _ (by omega) (by omega)).mono ?_; rintro e w1 ⟨rfl, rfl⟩))
              simp only [xor_eq, and_eq, not_eq, add_eq]
              generalize hx : r.h + (rotr r.e 6 ^^^ rotr r.e 11 ^^^ rotr r.e 25) + ((r.e &&& r.f) ^^^ (~~~r.e &&& r.g)) + kt + wt = x
              have HX : Hid (xOf r kt wt = x) := by show _ = _; rw [← hx]; rfl
              clear hx ck cw
              go_wp2_with fail
              go_region_held (fun w' => w'.cell? ⟨N4, 0, none⟩ = some (.int .u32 (r.a.toNat : Int)) ∧ w'.cell? ⟨N4, 1, none⟩ = some (.int .u32 (r.b.toNat : Int)) ∧ w'.cell? ⟨N4, 2, none⟩ = some (.int .u32 (r.c.toNat : Int))) (first | exact ⟨e0, e1, e2⟩ | assumption)
                (first
                | (go_at_call_of 56 (Value.int IntKind.i64 2); refine (rrot_is r.a 2 _ (by omega) (by omega)).mono ?_; rintro e w1 ⟨rfl, rfl⟩)
                | (go_at_call_of 56 (Value.int IntKind.i64 13); refine (rrot_is r.a 13 _ (by omega) (by omega)).mono ?_; rintro e w1 ⟨rfl, rfl⟩)
                | (go_at_call_of 56 (Value.int IntKind.i64 22); refine (rrot_is r.a 22 _ (by omega) (by omega)).mono ?_; rintro e w1 ⟨rfl, rfl⟩))
              simp only [xor_eq, and_eq, add_eq]
              generalize hy : (rotr r.a 2 ^^^ rotr r.a 13 ^^^ rotr r.a 22) + ((r.a &&& r.b) ^^^ (r.a &&& r.c) ^^^ (r.b &&& r.c)) = y
              have HY : Hid (yOf r = y) := by show _ = _; rw [← hy]; rfl
              clear hy
              obtain ⟨xy, hxy⟩ : ∃ xy, xy = x + y := ⟨_, rfl⟩
              obtain ⟨dx, hdx⟩ : ∃ dx, dx = r.d + x := ⟨_, rfl⟩
              have m1 : ((x.toNat : Int) + (y.toNat : Int)) % 4294967296 = (xy.toNat : Int) := by rw [hxy]; exact addm x y
              have m2 : ((r.d.toNat : Int) + (x.toNat : Int)) % 4294967296 = (dx.toNat : Int) := by rw [hdx]; exact addm r.d x
              have HNL : Hid (V (rnd r kt wt).words = [.int .u32 (xy.toNat : Int), .int .u32 (r.a.toNat : Int), .int .u32 (r.b.toNat : Int), .int .u32 (r.c.toNat : Int), .int .u32 (dx.toNat : Int), .int .u32 (r.e.toNat : Int), .int .u32 (r.f.toNat : Int), .int .u32 (r.g.toNat : Int)]) := by
                show _ = _
                rw [hxy, hdx, ← HX.out, ← HY.out]; rfl
              clear hxy hdx
              go_wp2_with (first
                | (refine wpList_built8 rfl (.tmp 169) (.tmp 171) (.tmp 173) (.tmp 175) (.tmp 179) (.tmp 181) (.tmp 183) (.tmp 185) rfl (xy.toNat : Int) (r.a.toNat : Int) (r.b.toNat : Int) (r.c.toNat : Int) (dx.toNat : Int) (r.e.toNat : Int) (r.f.toNat : Int) (r.g.toNat : Int) rfl rfl rfl rfl rfl rfl rfl rfl ?_)
                | (refine wpList_store_blk rfl 73 (.tmp 12) (.tmp 186) rfl N4 0 73 (V r.words) [Value.int .u32 (xy.toNat : Int), .int .u32 (r.a.toNat : Int), .int .u32 (r.b.toNat : Int), .int .u32 (r.c.toNat : Int), .int .u32 (dx.toNat : Int), .int .u32 (r.e.toNat : Int), .int .u32 (r.f.toNat : Int), .int .u32 (r.g.toNat : Int)] rfl rfl hr.out.2.2.2.2.1 (by show 0 + 8 ≤ 8; omega) size44 (by intro v hv; simp only [List.mem_cons, List.not_mem_nil, or_false] at hv; rcases hv with rfl | rfl | rfl | rfl | rfl | rfl | rfl | rfl <;> rfl) ?_; intro w9 hB9 hG9))
              have HR9 : Hid (R3 w s bs N4 (rnd r kt wt) w9) := by
                refine (hr.out.drawN 2).stored ?_ hG9.out
                have e := hB9.out
                rw [HNL.out]
                exact e
              clear hB9 hG9
              go_wp2
              go_roundw
              case rel =>
                first
                  | exact ⟨t + 1, rnd r kt wt, by go_num, HT.out, HE.out.symm, HR9⟩
                  | ((repeat apply Exists.intro); exact ⟨⟨t + 1, rnd r kt wt, by go_num, HT.out, HE.out.symm, HR9⟩, rfl⟩)
              case measure => simp [intOf]; omega
        · have q2 : (u : Int) < 48 := by omega
          have HU : Hid (u < 48) := by show u < 48; omega
          have HL : Hid ((moreTo bs u).length = u + 16) := by show _ = _; rw [moreTo_length]; omega
          obtain ⟨y0, h0⟩ : ∃ y, y = (moreTo bs u).getD (u + 14) 0 := ⟨_, rfl⟩
          obtain ⟨y1, h1⟩ : ∃ y, y = (moreTo bs u).getD (u + 9) 0 := ⟨_, rfl⟩
          obtain ⟨y2, h2⟩ : ∃ y, y = (moreTo bs u).getD (u + 1) 0 := ⟨_, rfl⟩
          obtain ⟨y3, h3⟩ : ∃ y, y = (moreTo bs u).getD u 0 := ⟨_, rfl⟩
          have gb : ∀ i, i < u + 16 → wr.cell? ⟨w.heap.size + 1 + 1 + 1, i, none⟩ = some (.int .u32 (((moreTo bs u).getD i 0).toNat : Int)) := by
            intro i hi
            refine hr.out.2.2.2.1.cell ?_
            rw [List.getElem?_append_left (by rw [V_length, HL.out]; exact hi)]
            exact V_get _ i (by rw [HL.out]; exact hi)
          have c0 : wr.cell? ⟨w.heap.size + 1 + 1 + 1, u + 14, none⟩ = some (.int .u32 (y0.toNat : Int)) := by rw [h0]; exact gb _ (by omega)
          have c1 : wr.cell? ⟨w.heap.size + 1 + 1 + 1, u + 9, none⟩ = some (.int .u32 (y1.toNat : Int)) := by rw [h1]; exact gb _ (by omega)
          have c2 : wr.cell? ⟨w.heap.size + 1 + 1 + 1, u + 1, none⟩ = some (.int .u32 (y2.toNat : Int)) := by rw [h2]; exact gb _ (by omega)
          have c3 : wr.cell? ⟨w.heap.size + 1 + 1 + 1, u, none⟩ = some (.int .u32 (y3.toNat : Int)) := by rw [h3]; exact gb _ (by omega)
          have c4 : wr.cell? ⟨w.heap.size + 1 + 1 + 1, u + 16, none⟩ = some (.int .u32 0) := by
            refine hr.out.2.2.2.1.cell ?_
            rw [List.getElem?_append_right (by rw [V_length, HL.out]; exact Nat.le_refl _), V_length, HL.out, Nat.sub_self, zw, List.getElem?_replicate, if_pos (by omega)]
          have c5 : wr.frozen? ⟨w.heap.size + 1 + 1 + 1, u + 16, none⟩ = false := hr.out.2.2.2.1.free _
          have HN : Hid (next (moreTo bs u) = (rotr y0 17 ^^^ rotr y0 19 ^^^ shr y0 10) + y1 + (rotr y2 7 ^^^ rotr y2 18 ^^^ shr y2 3) + y3) := by
            show _ = _; unfold next; rw [HL.out, show u + 16 - 2 = u + 14 by omega, show u + 16 - 7 = u + 9 by omega, show u + 16 - 15 = u + 1 by omega, show u + 16 - 16 = u by omega, ← h0, ← h1, ← h2, ← h3]; rfl
          have g10 : (y0.toNat : Int) / 1024 = ((shr y0 10).toNat : Int) := shr_eq y0 10
          have g3 : (y2.toNat : Int) / 8 = ((shr y2 3).toNat : Int) := shr_eq y2 3
          have k2 : IntKind.i64.wrap ((u : Int) + 16 - 2) = (u : Int) + 14 := by rw [IntKind.wrap_i64]; omega
          have r2 : (0 : Int) ≤ (u : Int) + 14 := by omega
          have s2 : (u : Int) + 14 < 64 := by omega
          have v2 : ((u : Int) + 14).toNat = u + 14 := by omega
          have k7 : IntKind.i64.wrap ((u : Int) + 16 - 7) = (u : Int) + 9 := by rw [IntKind.wrap_i64]; omega
          have r7 : (0 : Int) ≤ (u : Int) + 9 := by omega
          have s7 : (u : Int) + 9 < 64 := by omega
          have v7 : ((u : Int) + 9).toNat = u + 9 := by omega
          have k15 : IntKind.i64.wrap ((u : Int) + 16 - 15) = (u : Int) + 1 := by rw [IntKind.wrap_i64]; omega
          have r15 : (0 : Int) ≤ (u : Int) + 1 := by omega
          have s15 : (u : Int) + 1 < 64 := by omega
          have v15 : ((u : Int) + 1).toNat = u + 1 := by omega
          have k16 : IntKind.i64.wrap (u : Int) = (u : Int) := by rw [IntKind.wrap_i64]; omega
          have s16 : (u : Int) < 64 := by omega
          have s0 : (u : Int) + 16 < 64 := by omega
          have p0 : (0 : Int) ≤ (u : Int) + 16 := by omega
          have v0 : ((u : Int) + 16).toNat = u + 16 := by omega
          clear gb h0 h1 h2 h3 hlt hz44 hz52
          go_wp2_with fail
          go_region_held (fun w' => w'.cell? ⟨w.heap.size + 1 + 1 + 1, u + 9, none⟩ = some (.int .u32 (y1.toNat : Int)) ∧ w'.cell? ⟨w.heap.size + 1 + 1 + 1, u, none⟩ = some (.int .u32 (y3.toNat : Int))) (first | exact ⟨c1, c3⟩ | exact ⟨(World.cell?_setCell_other _ _ _ _ (by simp)).trans c1, (World.cell?_setCell_other _ _ _ _ (by simp)).trans c3⟩)
            (first
            | (go_at_call_of 56 (Value.int IntKind.i64 17); refine (rrot_is y0 17 _ (by omega) (by omega)).mono ?_; rintro e w1 ⟨rfl, rfl⟩)
            | (go_at_call_of 56 (Value.int IntKind.i64 19); refine (rrot_is y0 19 _ (by omega) (by omega)).mono ?_; rintro e w1 ⟨rfl, rfl⟩)
            | (go_at_call_of 56 (Value.int IntKind.i64 7); refine (rrot_is y2 7 _ (by omega) (by omega)).mono ?_; rintro e w1 ⟨rfl, rfl⟩)
            | (go_at_call_of 56 (Value.int IntKind.i64 18); refine (rrot_is y2 18 _ (by omega) (by omega)).mono ?_; rintro e w1 ⟨rfl, rfl⟩))
          go_wp2
          go_roundw
          case rel =>
            simp only [addm, xor_eq]
            rw [← HN.out]
            have st := (hr.out.store (u + 16) (.int .u32 ((next (moreTo bs u)).toNat : Int))).drew
            have ap := app_set (moreTo bs u) (63 - (u + 16)) (u + 16) (next (moreTo bs u)) HL.out.symm (by have := HU.out; omega)
            rw [ap, show u + 16 + 1 = u + 1 + 16 by omega] at st
            first
              | exact ⟨u + 1, by go_num, by have := HU.out; omega, st⟩
              | ((repeat apply Exists.intro); exact ⟨⟨u + 1, by go_num, by have := HU.out; omega, st⟩, rfl⟩)
          case measure => simp [intOf]; omega
    · have q1 : (t : Int) < 16 := by omega
      have HT : Hid (t < 16) := by show t < 16; omega
      obtain ⟨x0, h0⟩ : ∃ x, x = (bs.getD (4 * t) 0).toNat := ⟨_, rfl⟩
      obtain ⟨x1, h1⟩ : ∃ x, x = (bs.getD (4 * t + 1) 0).toNat := ⟨_, rfl⟩
      obtain ⟨x2, h2⟩ : ∃ x, x = (bs.getD (4 * t + 2) 0).toNat := ⟨_, rfl⟩
      obtain ⟨x3, h3⟩ : ∃ x, x = (bs.getD (4 * t + 3) 0).toNat := ⟨_, rfl⟩
      have gb : ∀ i, i < 64 → wr.cell? ⟨ba, oa + i, none⟩ = some (.int .u8 ((bs.getD i 0).toNat : Int)) := by
        intro i hi
        rw [hr.out.2.2.2.2.cell (p := ⟨ba, oa + i, none⟩) HA1.out]
        refine HA2.out i _ ?_
        rw [List.getD_eq_getElem?_getD, List.getElem?_eq_getElem (by rw [HLB.out]; exact hi)]; rfl
      have c0 : wr.cell? ⟨ba, oa + 4 * t, none⟩ = some (.int .u8 (x0 : Int)) := by rw [h0]; exact gb _ (by omega)
      have c1 : wr.cell? ⟨ba, oa + (4 * t + 1), none⟩ = some (.int .u8 (x1 : Int)) := by rw [h1]; exact gb _ (by omega)
      have c2 : wr.cell? ⟨ba, oa + (4 * t + 2), none⟩ = some (.int .u8 (x2 : Int)) := by rw [h2]; exact gb _ (by omega)
      have c3 : wr.cell? ⟨ba, oa + (4 * t + 3), none⟩ = some (.int .u8 (x3 : Int)) := by rw [h3]; exact gb _ (by omega)
      have c4 : wr.cell? ⟨w.heap.size + 1 + 1 + 1, t, none⟩ = some (.int .u32 0) := by
        refine hr.out.2.2.2.1.cell ?_
        rw [List.getElem?_append_right (by rw [V_length, firstTo_length]; omega), V_length, firstTo_length, Nat.sub_self]
        rw [zw, List.getElem?_replicate, if_pos (by omega)]
      have c5 : wr.frozen? ⟨w.heap.size + 1 + 1 + 1, t, none⟩ = false := hr.out.2.2.2.1.free _
      have b0 : x0 < 256 := by rw [h0]; exact UInt8.toNat_lt _
      have b1 : x1 < 256 := by rw [h1]; exact UInt8.toNat_lt _
      have b2 : x2 < 256 := by rw [h2]; exact UInt8.toNat_lt _
      have b3 : x3 < 256 := by rw [h3]; exact UInt8.toNat_lt _
      have d0 : (x0 : Int) < 256 := by omega
      have d1 : (x1 : Int) < 256 := by omega
      have d2 : (x2 : Int) < 256 := by omega
      have d3 : (x3 : Int) < 256 := by omega
      have HWD : Hid (word bs t = UInt32.ofNat (x0 * 16777216 + x1 * 65536 + x2 * 256 + x3)) := by show _ = _; unfold word; rw [h0, h1, h2, h3]
      have HNE : Hid (ba ≠ w.heap.size + 1 + 1 + 1) := by have := HA1.out; show ba ≠ _; omega
      have q2 : (0 : Int) ≤ 4 * (t : Int) := by omega
      have q3 : 4 * (t : Int) < 64 := by omega
      have q4 : 4 * (t : Int) + 1 < 64 := by omega
      have q5 : 4 * (t : Int) + 2 < 64 := by omega
      have q6 : 4 * (t : Int) + 3 < 64 := by omega
      have v1 : (4 * (t : Int)).toNat = 4 * t := by omega
      have v2 : (4 * (t : Int) + 1).toNat = 4 * t + 1 := by omega
      have v3 : (4 * (t : Int) + 2).toNat = 4 * t + 2 := by omega
      have v4 : (4 * (t : Int) + 3).toNat = 4 * t + 3 := by omega
      clear gb h0 h1 h2 h3 hlt hz44 hz52
      go_wp2_with fail
      go_region
      go_wp2
      have st := (hr.out.store t (.int .u32 ((word bs t).toNat : Int))).drew
      have ap := app_set (firstTo bs t) (63 - t) t (word bs t) (firstTo_length bs t).symm (by omega)
      rw [ap] at st
      have hv : (x0 : Int) * 16777216 + (x1 : Int) * 65536 + (x2 : Int) * 256 + (x3 : Int) = ((word bs t).toNat : Int) := by rw [HWD.out, toNat32 (by omega)]; omega
      rw [hv]
      refine ⟨⟨t + 1, by simp, HT.out, st⟩, ?_⟩
      have := HT.out
      simp only [intOf]
      omega
end Go.Proofs.YtgdecjacbkicmaaDoor.Hsh
