/-
  Layer 2 (hash): 'Digest.Sum', 'Clone', 'New', 'Sum'.
-/
import Derived.Test.YtjeahlfmapacfaaDoorWrite
import Derived.Test.YtjeahlfmapacfaaDoorBytes
import Derived.Great.Ranges
namespace Go.Proofs.YtjeahlfmapacfaaDoor.Oct
open Go.RowKit Sha

theorem sum_length (l : List UInt8) : (sum l).length = 32 := by simp [sum, digest]
theorem size49 : (Tryd.prog.info? 106).map (·.size) = some 74 := by kernel_rfl
theorem size45 : (Tryd.prog.info? 104).map (·.size) = some 8 := by kernel_rfl
theorem size25 : (Tryd.prog.info? 67).map (·.size) = some 32 := by kernel_rfl
theorem cellsOf_one (s : St) (tail : List UInt8) (N : Nat) : ∀ v ∈ cellsOf s tail N, v.oneCell' = true := by
  intro v hv
  simp only [cellsOf, V, U, List.mem_cons, List.mem_append, List.mem_map, List.not_mem_nil, or_false] at hv
  rcases hv with rfl | ⟨x, _, rfl⟩ | ⟨x, _, rfl⟩ | rfl <;> rfl

/-- the digest's block is copied -/
theorem copied {w : World} {b : Nat} {L cells : List Value} (hl : cells.length = 74) (hL : L.length = 74) (h : Blk w b 106 (L.take 0 ++ cells ++ L.drop (0 + cells.length))) : Blk w b 106 cells := by
  rw [List.drop_eq_nil_of_le (by omega)] at h
  simpa using h

theorem zero49 : ∃ Z : List Value, (∀ W, (zeroValue 106).run Tryd.prog W = .ok (.agg Z.toArray) W) ∧ Hid (Z.length = 74) := by
  refine ⟨.bool false :: (List.replicate 8 (.int .u32 0) ++ (List.replicate 64 (.int .u8 0) ++ [.int .u64 0])), fun W => ?_, show _ = _ by simp⟩
  have h : (Tryd.prog.info? 106).bind (·.zero) = some (.agg (Value.bool false :: (List.replicate 8 (.int .u32 0) ++ (List.replicate 64 (.int .u8 0) ++ [.int .u64 0]))).toArray) := by kernel_rfl
  obtain ⟨i, hi, hz⟩ := Option.bind_eq_some_iff.1 h
  simp only [zeroValue, typeInfo]
  simp [hi, hz]

theorem in_blk {w : World} {b : Nat} {t : TypeId} {l : List UInt8} (h : Blk w b t (U l)) (hl : l.length ≤ 140737488355328) : In w (some ⟨b, 0, none⟩) l.length l.length l := by
  refine ⟨rfl, Nat.le_refl _, hl, by simp, fun _ => ⟨b, 0, rfl, h.lt, fun i c hc => ?_⟩⟩
  rw [Nat.zero_add]
  exact h.cell (by simp [U, hc])

theorem kept_new {W w2 : World} {d i : Nat} {v : Value} {Z : Obj} (h : W.cell? ⟨d, i, none⟩ = some v) (hd : d < W.heap.size) (hg : (W.alloc Z).grownBy w2 (some W.heap.size)) : w2.cell? ⟨d, i, none⟩ = some v := by
  refine hg.cell ((((Below.refl _ W).alloc (Nat.le_refl _) Z).cell (p := ⟨d, i, none⟩) hd).trans h) ?_
  intro e
  have := Option.some.inj e
  simp at this
  omega

set_option maxHeartbeats 1000000 in
set_option maxRecDepth 100000 in
theorem dsum_is (d : Nat) (M : List UInt8) (w : World) (hk : KT w) (hD : Dig w d M) (hM : M.length < 900000000000) :
    Calls Tryd.prog 48 #[.pointer (some ⟨d, 0, none⟩)] w fun e w' => e = .returned (.agg (U (sum M)).toArray) ∧ Below w.heap.size w w' := by
  obtain ⟨tail, hT, hB⟩ := hD
  obtain ⟨Z, hz, hZ⟩ := zero49
  have c0 : w.cell? ⟨d, 0, none⟩ = some (.bool true) := hB.cell rfl
  obtain ⟨N, hN⟩ : ∃ N, N = M.length := ⟨_, rfl⟩
  rw [← hN] at hB
  have c73 : w.cell? ⟨d, 73, none⟩ = some (.int .u64 (N : Int)) := hB.cell (cellsOf_73 hT.1)
  have HK : Hid (KT w) := hk
  have HM : Hid (M.length < 900000000000) := hM
  have HN : Hid (N = M.length) := hN
  have HB : Hid (Blk w d 106 (cellsOf (fold Sha.start M) tail N)) := hB
  have HD : Hid (d < w.heap.size) := hB.lt
  have HT : Hid (Tail M tail) := hT
  have HL : Hid ((cellsOf (fold Sha.start M) tail N).length = 74) := cellsOf_length hT.1
  have H1 : Hid (∀ v ∈ cellsOf (fold Sha.start M) tail N, v.oneCell' = true) := cellsOf_one (fold Sha.start M) tail N
  generalize hC : cellsOf (fold Sha.start M) tail N = C at HB HL H1
  have HC : Hid (cellsOf (fold Sha.start M) tail N = C) := hC
  have hdl : d < w.heap.size := HB.out.lt
  clear hB hT hC hk hM hN
  go_enter Tryd.func48, Tryd.ntmps48
  go_wp2_with fail
  generalize hW1 : w.alloc _ = W1
  obtain ⟨HR1, HB1, HS1, HW1, k0, k73⟩ : Hid (Blk W1 w.heap.size 67 (zb 32)) ∧ Hid (Blk W1 d 106 C) ∧ Hid (W1.heap.size = w.heap.size + 1) ∧ Hid (Below w.heap.size w W1) ∧ W1.cell? ⟨d, 0, none⟩ = some (.bool true) ∧ W1.cell? ⟨d, 73, none⟩ = some (.int .u64 (N : Int)) := by
    subst hW1
    refine ⟨Blk.new w _ 67, HB.out.alloc _, show _ = _ by simp, (Below.refl _ w).alloc (Nat.le_refl _) _, ?_, ?_⟩
    · rw [((Below.refl _ w).alloc (Nat.le_refl _) _).cell (p := ⟨d, 0, none⟩) HD.out]; exact c0
    · rw [((Below.refl _ w).alloc (Nat.le_refl _) _).cell (p := ⟨d, 73, none⟩) HD.out]; exact c73
  clear hW1 c0 c73
  go_wp2_with (first
    | (go_at_call 61; refine (isMade_is d true _ k0).mono ?_; rintro e w1 ⟨rfl, rfl⟩)
    | (refine wpList_load_row rfl 106 (.tmp 9) rfl d rfl 106 C.toArray (0, 0) _ HB1.out Tryd.underlying106 rfl (by rw [size49, List.size_toArray, HL.out]) ?_)
    | (refine wpList_store_blk rfl 106 (.tmp 3) (.tmp 10) rfl W1.heap.size 0 106 Z C rfl rfl (Blk.new W1 Z.toArray 106) (by rw [HL.out, hZ.out]; omega) (by rw [size49, HL.out]) H1.out ?_; intro w2 hB2 hG2; have j73 : w2.cell? ⟨d, 73, none⟩ = some (.int .u64 (N : Int)) := kept_new k73 (by rw [HS1.out]; have := HD.out; omega) hG2.out)
    | (go_at_call 64; fail))
  have HD2 : Hid (Dig w2 W1.heap.size M) := by
    refine ⟨tail, HT.out, ?_⟩
    rw [← HN.out, HC.out]
    exact copied HL.out hZ.out hB2.out
  have HW2 : Hid (Below w.heap.size w w2) := by
    have e := HW1.out.alloc (by rw [HS1.out]; omega) (.cells Z.toArray 106)
    exact e.grown hG2.out (by simp; have := HS1.out; omega) (by intro k hk; have := Option.some.inj hk; have := HS1.out; omega)
  have HR2 : Hid (Blk w2 w.heap.size 67 (zb 32)) := by
    refine Blk.kept (HR1.out.alloc _) hG2.out ?_
    intro e; have := Option.some.inj e; have := HS1.out; omega
  have HSZ : Hid (W1.heap.size < w2.heap.size) := HD2.out.choose_spec.2.lt
  have HK2 : Hid (KT w2) := HK.out.below HW2.out
  have HS1' : Hid (2 < w.heap.size) := HK.out.1
  clear hB2 hG2 k0 k73 j73 hz hdl
  generalize W1.heap.size = d2 at *
  go_wp2_with (first
    | (go_at_call 64; refine (ending_is N (by rw [HN.out]; have := HM.out; omega) w2).mono ?_; rintro e w3 ⟨rfl, hb3, hw3⟩; have HB3 : Hid (Blk w3 w2.heap.size 5 (U (ending N))) := hb3; have HW3 : Hid (Below w2.heap.size w2 w3) := hw3; clear hb3 hw3)
    | (go_at_call 47; fail))
  have HDE : Hid (Dig w3 d2 M) := by
    obtain ⟨t, h1, h2⟩ := HD2.out
    exact ⟨t, h1, h2.below HW3.out HSZ.out⟩
  have HIN : Hid (InX d2 w3 (some ⟨w2.heap.size, 0, none⟩) (ending N).length (ending N).length (ending N)) := by
    refine ⟨in_blk HB3.out ?_, ?_⟩
    · simp [ending, lenBytes]; omega
    · rintro - x e; have := Option.some.inj e; subst this; have := HSZ.out; show w2.heap.size ≠ d2; omega
  have HEL : Hid ((ending N).length < 100) := by show _ < _; simp [ending, lenBytes]; omega
  generalize hE : (ending N).length = E at *
  go_wp2_with (first
    | (go_at_call 47; refine (write_is d2 M (ending N) _ E E w3 (HK2.out.below HW3.out) (by have := HS1.out; have := HS1'.out; omega) HDE.out HIN.out (by have := HM.out; have := HEL.out; omega)).mono ?_; rintro e w4 ⟨rfl, hd4, hg4⟩; have HD4 : Hid (Dig w4 d2 (M ++ ending N)) := hd4; have HG4 : Hid (w3.grownBy w4 (some d2)) := hg4; clear hd4 hg4; obtain ⟨t4, hT4, hB4⟩ := HD4.out; have HB4 : Hid (Blk w4 d2 106 (cellsOf (fold Sha.start (M ++ ending N)) t4 (M ++ ending N).length)) := hB4; clear hB4 hT4)
    | (refine wpList_load_mid rfl 104 (.tmp 17) rfl d2 1 rfl (V (fold Sha.start (M ++ ending N)).words) _ (by have e := HB4.out.range 1 8; rw [cellsOf_state] at e; exact e) Tryd.underlying104 rfl (s45 _) ?_)
    | (go_at_call 65; fail))
  have HR4 : Hid (Blk w4 w.heap.size 67 (zb 32)) := by
    refine Blk.kept (HR2.out.below HW3.out (by have := HSZ.out; have := HS1.out; omega)) HG4.out ?_
    intro e; have := Option.some.inj e; have := HS1.out; omega
  have HW4 : Hid (Below w.heap.size w w4) := by
    refine (HW2.out.trans (HW3.out.mono HW2.out.size)).grown HG4.out ?_ ?_
    · have h1 := HW2.out.size; have h2 := HW3.out.size; omega
    · intro k hk; have := Option.some.inj hk; have := HS1.out; omega
  have HL32 : Hid ((U (digest (fold Sha.start (M ++ ending N)))).length = 32) := by show _ = _; rw [U_length]; simp [digest]
  have HLT : Hid (w.heap.size < w4.heap.size) := HR4.out.lt
  have HSUM : Hid (digest (fold Sha.start (M ++ ending N)) = sum M) := by show _ = _; rw [HN.out]; rfl
  go_wp2_with (first
    | (go_at_call 65; refine (bytes_is (fold Sha.start (M ++ ending N)) w4).mono ?_; rintro e w5 ⟨rfl, hw5⟩; have HW5 : Hid (Below w4.heap.size w4 w5) := hw5; clear hw5)
    | (refine wpList_store_blk rfl 67 (.tmp 2) (.tmp 19) rfl w.heap.size 0 67 (zb 32) (U (digest (fold Sha.start (M ++ ending N)))) rfl rfl (HR4.out.below HW5.out HLT.out) (by rw [HL32.out, zb_length]; omega) (by rw [size25, HL32.out]) (U_one _) ?_; intro w6 hB6 hG6))
  have HR : Hid (w6.heap[w.heap.size]? = some (.cells (U (sum M)).toArray 67 (0, 0))) := by
    have e := hB6.out
    rw [List.drop_eq_nil_of_le (by rw [zb_length, HL32.out]; omega), List.append_nil, HSUM.out] at e
    exact e
  have HSL : Hid ((U (sum M)).length = 32) := by show _ = _; rw [← HSUM.out]; exact HL32.out
  refine bodyPost_ret (v := .agg (U (sum M)).toArray) (results_cell_row rfl _ _ w.heap.size 67 _ (0, 0) _ rfl HR.out Tryd.underlying67 rfl (by rw [size25, List.size_toArray, HSL.out])) rfl ⟨rfl, ?_⟩
  refine (HW4.out.trans (HW5.out.mono (by have := HLT.out; omega))).grown hG6.out ?_ ?_
  · have h1 := HW5.out.size; have h2 := HLT.out; omega
  · intro k hk; have := Option.some.inj hk; omega

/-- the package variable start lies in block 0 -/
def ST (w : World) : Prop := 1 < w.heap.size ∧ w.rangeAt 1 0 (V Sha.start.words)
theorem ST.below {w w' : World} (h : ST w) (hb : Below w.heap.size w w') : ST w' := ⟨Nat.lt_of_lt_of_le h.1 hb.size, fun j v hj => (hb.cell (p := ⟨1, 0 + j, none⟩) h.1).trans (h.2 j v hj)⟩
theorem ST.grown {w w' : World} {d : Nat} (h : ST w) (hg : w.grownBy w' (some d)) (hd : 1 ≠ d) : ST w' := ⟨Nat.lt_of_lt_of_le h.1 hg.size, fun j v hj => hg.cell (h.2 j v hj) (by simpa using hd)⟩

theorem built49 : Tryd.prog.built 106 [(0, .bool true), (1, .agg (V Sha.start.words).toArray)] = some (cellsOf Sha.start (List.replicate 64 0) 0).toArray := by kernel_rfl

theorem wpList_built {P : Program} {ops : Array Oper} {rest : List Oper} {o : Oper} {a : Act} {w : World} {Q : Exit → Act → World → Prop} (hg : o.guard = none) (t : TypeId) (parts : Array (Nat × Operand)) (ho : o.op = .build t parts)
    (cells : Array Value) (hb : P.built t (parts.map fun (i, x) => (i, a.eval x)).toList = some cells) (h : wpList P ops Q rest (a.put o.dst (.agg cells)) w) : wpList P ops Q (o :: rest) a w := by
  refine wpList_build hg t parts ho (by rw [hb]; rfl) ?_
  rw [hb]
  exact h

set_option maxHeartbeats 1000000 in
set_option maxRecDepth 100000 in
theorem new_is (w : World) (hs : ST w) :
    Calls Tryd.prog 46 #[] w fun e w' => e = .returned (.pointer (some ⟨w.heap.size, 0, none⟩)) ∧ Dig w' w.heap.size [] ∧ Below w.heap.size w w' := by
  have HS : Hid (ST w) := hs
  obtain ⟨C, hC⟩ : ∃ C, C = cellsOf Sha.start (List.replicate 64 0) 0 := ⟨_, rfl⟩
  have HC : Hid (C = cellsOf Sha.start (List.replicate 64 0) 0) := hC
  have hbt := built49
  rw [← hC] at hbt
  obtain ⟨Y, hY⟩ : ∃ Y, Y = (V Sha.start.words).toArray := ⟨_, rfl⟩
  have HY : Hid (Y = (V Sha.start.words).toArray) := hY
  rw [← hY] at hbt
  have HBT : Hid (Tryd.prog.built 106 [(0, .bool true), (1, .agg Y)] = some C.toArray) := hbt
  clear hs hC hY hbt
  go_enter Tryd.func46, Tryd.ntmps46
  go_wp2_with (first
    | (refine wpList_load_mid rfl 104 (.global 1) rfl 1 0 rfl (V Sha.start.words) _ HS.out.2 Tryd.underlying104 rfl (s45 _) ?_; rw [← HY.out])
    | (refine wpList_built rfl 106 _ rfl C.toArray (by simp [Act.eval]; exact HBT.out) ?_)
    | (refine Go.Great.wpList_boxTo rfl 106 (.tmp 2) rfl _ rfl w.heap.size rfl C.toArray rfl ?_))
  go_ret
  refine ⟨rfl, ⟨List.replicate 64 0, ⟨by simp, rfl⟩, ?_⟩, (Below.refl _ w).alloc (Nat.le_refl _) _⟩
  rw [show cellsOf (fold Sha.start []) (List.replicate 64 0) ([] : List UInt8).length = C from HC.out.symm]
  exact Blk.new w C.toArray 106

#print axioms new_is

set_option maxHeartbeats 1000000 in
set_option maxRecDepth 100000 in
/-- 'Sum' -/
theorem sum_is (l : List UInt8) (a : Option Addr) (len cap : Nat) (w : World) (hk : KT w) (hs : ST w) (hin : In w a len cap l) (hl : len < 900000000000) :
    Calls Tryd.prog 60 #[.slice a len cap] w fun e w' => e = .returned (.agg (U (sum l)).toArray) ∧ Below w.heap.size w w' := by
  have HK : Hid (KT w) := hk
  have HS : Hid (ST w) := hs
  have HIN : Hid (In w a len cap l) := hin
  have HL : Hid (len < 900000000000) := hl
  clear hk hs hin hl
  go_enter Tryd.func60, Tryd.ntmps60
  go_wp2_with fail
  generalize hW1 : w.alloc _ = W1
  obtain ⟨HR1, HS1, HW1⟩ : Hid (Blk W1 w.heap.size 67 (zb 32)) ∧ Hid (W1.heap.size = w.heap.size + 1) ∧ Hid (Below w.heap.size w W1) := by
    subst hW1
    exact ⟨Blk.new w _ 67, show _ = _ by simp, (Below.refl _ w).alloc (Nat.le_refl _) _⟩
  clear hW1
  refine (new_is W1 (HS.out.below HW1.out)).mono ?_
  rintro e w2 ⟨rfl, hd2, hw2⟩
  have HD2 : Hid (Dig w2 W1.heap.size []) := hd2
  have HW2 : Hid (Below W1.heap.size W1 w2) := hw2
  have HIN2 : Hid (InX W1.heap.size w2 a len cap l) := by
    refine ⟨(HIN.out.below HW1.out).below HW2.out, fun hp x e => ?_⟩
    obtain ⟨b, off, e1, e2, -⟩ := HIN.out.2.2.2.2 hp
    rw [e1] at e
    have := Option.some.inj e
    subst this
    have := HS1.out
    show b ≠ _
    omega
  have HK2 : Hid (KT w2) := (HK.out.below HW1.out).below HW2.out
  have HLT : Hid (W1.heap.size < w2.heap.size) := HD2.out.choose_spec.2.lt
  clear hd2 hw2
  generalize W1.heap.size = d at *
  go_wp2_with (first
    | (go_at_call 47; refine (write_is d [] l a len cap w2 HK2.out (by have := HK.out.1; have := HS1.out; omega) HD2.out HIN2.out (by have := HL.out; simp; omega)).mono ?_; rintro e w3 ⟨rfl, hd3, hg3⟩; have HD3 : Hid (Dig w3 d l) := hd3; have HG3 : Hid (w2.grownBy w3 (some d)) := hg3; clear hd3 hg3)
    | (go_at_call 48; refine (dsum_is d l w3 (HK2.out.grown HG3.out (by have := HK.out.1; have := HS1.out; omega)) HD3.out (by have := HL.out; have := HIN.out.1; omega)).mono ?_; rintro e w4 ⟨rfl, hw4⟩; have HW4 : Hid (Below w3.heap.size w3 w4) := hw4; clear hw4; have HR4 : Hid (Blk w4 w.heap.size 67 (zb 32)) := (Blk.kept (HR1.out.below HW2.out (by have := HS1.out; omega)) HG3.out (by intro e; have := Option.some.inj e; have := HS1.out; omega)).below HW4.out (Nat.lt_of_lt_of_le (Nat.lt_of_lt_of_le (by have := HS1.out; omega) (Nat.le_of_lt HLT.out)) HG3.out.size))
    | (refine wpList_store_blk rfl 67 (.tmp 2) (.tmp 9) rfl w.heap.size 0 67 (zb 32) (U (sum l)) rfl rfl HR4.out (by rw [U_length, sum_length, zb_length]; omega) (by rw [size25, U_length, sum_length]) (U_one _) ?_; intro w6 hB6 hG6))
  have HR : Hid (w6.heap[w.heap.size]? = some (.cells (U (sum l)).toArray 67 (0, 0))) := by
    have e := hB6.out
    rw [List.drop_eq_nil_of_le (by rw [zb_length, U_length, sum_length]; omega), List.append_nil] at e
    exact e
  refine bodyPost_ret (v := .agg (U (sum l)).toArray) (results_cell_row rfl _ _ w.heap.size 67 _ (0, 0) _ rfl HR.out Tryd.underlying67 rfl (by rw [size25, List.size_toArray, U_length, sum_length])) rfl ⟨rfl, ?_⟩
  have h1 := HS1.out
  have h2 := HLT.out
  have h3 := HG3.out.size
  have h4 := HW4.out.size
  refine (((HW1.out.trans (HW2.out.mono (by omega))).grown HG3.out (by omega) ?_).trans (HW4.out.mono (by omega))).grown hG6.out (by omega) ?_
  · intro k hk; have := Option.some.inj hk; omega
  · intro k hk; have := Option.some.inj hk; omega

#print axioms sum_is
end Go.Proofs.YtjeahlfmapacfaaDoor.Oct
