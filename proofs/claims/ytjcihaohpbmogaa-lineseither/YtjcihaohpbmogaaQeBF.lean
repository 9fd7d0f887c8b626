/-
  Layer 11 (lines): Conflicts: its steps.
-/
import Derived.Test.YtjcihaohpbmogaaQeBE
/- Layer 11 (lines): Conflicts: its steps. -/
namespace Go.Proofs.Ytjcihaohpbmogaa.Oct
open Go.RowKit
set_option maxRecDepth 100000
set_option linter.unusedSimpArgs false
set_option linter.unusedVariables false
set_option linter.unusedSectionVars false

def jn (n : Nat) (ks : List Nat) (l : List Int) : List Int := ks.foldl (fun l k => putW (n * 8) k (orW (n * 8) ((l.drop (k * 8)).take 8) 8 l)) l
structure Cf where
  l : List Int
  s : List Int
  pairs : Int
  before : Int
def cfStep (fl : Nat → List Nat) (alive : Nat → Bool) (c : Cf) (n : Nat) : Cf :=
  if alive n then ⟨jn n (fl n) c.l, putW 0 n c.s, wrap64 (c.pairs + wrap64 (c.before - bothW (((jn n (fl n) c.l).drop (n * 8)).take 8) c.s 8)), wrap64 (c.before + 1)⟩
  else ⟨jn n (fl n) c.l, c.s, c.pairs, c.before⟩
def z8 : List Int := List.replicate 8 0
def confR (fl : Nat → List Nat) (alive : Nat → Bool) (N : Nat) (R : List Nat) : Cf := R.foldl (cfStep fl alive) ⟨List.replicate (N * 8) 0, z8, 0, 0⟩
theorem jn_len (n : Nat) : ∀ (ks : List Nat) (l : List Int), (jn n ks l).length = l.length
  | [], l => rfl
  | k :: ks, l => by
    show (jn n ks _).length = _
    rw [jn_len n ks, putW_len, orW_len]
theorem jn_take {n : Nat} {ks : List Nat} {j k : Nat} (h : ks[j]? = some k) (l : List Int) : jn n (ks.take (j + 1)) l = putW (n * 8) k (orW (n * 8) (((jn n (ks.take j) l).drop (k * 8)).take 8) 8 (jn n (ks.take j) l)) := by
  unfold jn
  rw [List.take_add_one, h, List.foldl_append]
  rfl
theorem blk_words {w : World} {g k : Nat} {l : List Int} (h : Blk w g 95 (wsI l)) : w.rangeAt g (k * 8) (wsI ((l.drop (k * 8)).take 8)) := by
  intro j v hj
  refine h.cell ?_
  unfold wsI at hj ⊢
  rw [List.getElem?_map] at hj ⊢
  rw [List.getElem?_take] at hj
  split at hj
  · rw [List.getElem?_drop] at hj
    exact hj
  · cases hj
theorem words_len {l : List Int} {k N : Nat} (hl : l.length = N * 8) (hk : k < N) : ((l.drop (k * 8)).take 8).length = 8 := by
  rw [List.length_take, List.length_drop, hl]
  omega
theorem zero95 (W : World) : (zeroValue 95).run Try.prog W = .ok (.agg (wsI z8).toArray) W := by kernel_rfl
section
variable {ops : Array Oper} {rest : List Oper} {o : Oper} {a : Act} {w : World} {Q : Exit → Act → World → Prop}
theorem inf95 : ∃ i z, Try.prog.info? 95 = some i ∧ i.zero = some z ∧ i.size = 8 ∧ i.bytes = 64 ∧ z.cells = (wsI (List.replicate 8 0)).toArray := by
  obtain ⟨i, hi, he⟩ := Option.map_eq_some_iff.1 (show (Try.prog.info? 95).map (fun i => (i.size, i.bytes, i.zero.map (·.cells))) = some (8, 64, some (wsI (List.replicate 8 0)).toArray) by kernel_rfl)
  simp only [Prod.mk.injEq] at he
  obtain ⟨z, hz, hz2⟩ := Option.map_eq_some_iff.1 he.2.2
  exact ⟨i, z, hi, hz, he.1, he.2.1, hz2⟩
theorem made95 {z : Value} (hz : z.cells = (wsI (List.replicate 8 0)).toArray) (n : Nat) : (madeCells z.cells (n * 8)).toList = wsI (List.replicate (n * 8) 0) := by
  apply List.ext_getElem?
  intro j
  by_cases hj : j < n * 8
  · have h8 : j % 8 < 8 := Nat.mod_lt _ (by omega)
    simp [madeCells, hj, hz, wsI, List.getElem?_replicate, List.getElem_replicate]
    generalize j % 8 = r at h8 ⊢
    rcases (show r = 0 ∨ r = 1 ∨ r = 2 ∨ r = 3 ∨ r = 4 ∨ r = 5 ∨ r = 6 ∨ r = 7 by omega) with rfl | rfl | rfl | rfl | rfl | rfl | rfl | rfl <;> rfl
  · simp [madeCells, hj, wsI, List.getElem?_replicate]
theorem wpList_mkW (hg : o.guard = none) (l c : Operand) (hop : o.op = Op.makeSlice 92 l c) (n : Nat) (hl : a.eval l = iv (n : Int)) (hc : a.eval c = iv (n : Int)) (hn : n ≤ 1000000)
    (hK : ∀ w', Blk w' w.heap.size 95 (wsI (List.replicate (n * 8) 0)) → Below w.heap.size w w' → wpList Try.prog ops Q rest (a.put o.dst (.slice (some ⟨w.heap.size, 0, none⟩) n n)) w') : wpList Try.prog ops Q (o :: rest) a w := by
  refine wpList_plain hg fun K' hK' => ?_
  obtain ⟨i, z, hi, hz, hs, hby, hzc⟩ := inf95
  obtain ⟨w', hrun, r1, r2⟩ := run_make_full (P := Try.prog) w w.heap.size 92 95 i z 8 Try.underlying92 hi hz hs .i64 .i64 n (by rw [hby]; omega) (by unfold maxLen; omega) (Nat.le_refl _)
  rw [made95 hzc] at r1
  unfold Oper.wp execOp
  simp [hop, hl, hc, hrun, Result.andThen]
  refine hK' _ _ (hK w' ?_ ⟨r2.os, r2.tape, r2.output, r2.size, fun k hk => r2.block k hk (by simp)⟩)
  rcases r1.2 with ⟨h1, _⟩ | ⟨g, cap, cur, h1, h2, h3, h4, h5, h6, h7⟩
  · cases h1
  · simp only [Value.slice.injEq, Option.some.injEq, Addr.mk.injEq] at h1
    obtain ⟨⟨rfl, _⟩, _, rfl⟩ := h1
    have e : cur = (wsI (List.replicate (n * 8) 0)).toArray := by
      apply Array.toList_inj.1
      rw [List.take_of_length_le (by simp [h6])] at h7
      simpa using h7
    rw [e] at h3
    exact h3
end
set_option maxRecDepth 100000 in
set_option maxHeartbeats 4000000 in
theorem cf13 {Q : Exit → Act → World → Prop} {x0 x1 x2 x3 x5 x6 x7 x8 x10 x12 x13 x14 x15 x16 x17 x18 x19 x20 x21 x22 x23 x24 x25 x26 x27 x28 x29 x30 x31 x32 x33 x34 x35 x36 x37 x38 x39 x40 x41 x42 x43 x44 x45 x46 x47 x48 x49 x50 x51 x52 x53 x54 x55 x56 x57 x58 x59 x60 x61 x62 x63 x64 x65 x66 x67 x68 x69 x70 x71 x72 x73 : Value} {ds : List Deferred} {A : World} {g N n k : Nat} {l : List Int}
    (HX : Hid (Blk A g 95 (wsI l))) (HN : Hid (l.length = N * 8 ∧ k < N ∧ n < N)) (q1 : (n : Int) < (N : Int)) (q2 : n < N) (q3 : (k : Int) < (N : Int)) (q4 : k < N)
    (hQ : ∀ V3 rv, Keep (fun k => k = g) A V3 → Blk V3 g 95 (wsI (orW (n * 8) ((l.drop (k * 8)).take 8) 8 l)) → Q .normal { tmps := #[x0, x1, x2, x3, .slice (some ⟨g, 0, none⟩) N N, x5, x6, x7, x8, iv (n : Int), x10, iv (k : Int), x12, x13, x14, x15, x16, x17, x18, x19, x20, x21, x22, x23, x24, x25, x26, x27, x28, x29, x30, x31, x32, x33, x34, x35, x36, x37, .slice (some ⟨g, 0, none⟩) N N, iv (n : Int), .pointer (some ⟨g, n * 8, none⟩), .slice (some ⟨g, 0, none⟩) N N, iv (k : Int), .pointer (some ⟨g, k * 8, none⟩), .agg (wsI ((l.drop (k * 8)).take 8)).toArray, rv, x46, x47, x48, x49, x50, x51, x52, x53, x54, x55, x56, x57, x58, x59, x60, x61, x62, x63, x64, x65, x66, x67, x68, x69, x70, x71, x72, x73], defers := ds } V3) :
    (Code.region 13 #[{ dst := some 38, op := Op.move (Operand.tmp 4), type := 92, pos := "tell.go:148", after := #[], guard := none }, { dst := some 39, op := Op.move (Operand.tmp 9), type := 3, pos := "tell.go:148", after := #[], guard := none }, { dst := some 40, op := Op.indexAddr 92 (Operand.tmp 38) (Operand.tmp 39), type := 0, pos := "tell.go:148", after := #[{ on := 0, ground := Ground.data }, { on := 1, ground := Ground.data }], guard := none }, { dst := some 41, op := Op.move (Operand.tmp 4), type := 92, pos := "tell.go:148", after := #[], guard := none }, { dst := some 42, op := Op.move (Operand.tmp 11), type := 3, pos := "tell.go:148", after := #[], guard := none }, { dst := some 43, op := Op.indexAddr 92 (Operand.tmp 41) (Operand.tmp 42), type := 0, pos := "tell.go:148", after := #[{ on := 3, ground := Ground.data }, { on := 4, ground := Ground.data }], guard := none }, { dst := some 44, op := Op.load 95 (Operand.tmp 43), type := 95, pos := "tell.go:148", after := #[{ on := 5, ground := Ground.data }], guard := none }, { dst := some 45, op := Op.call { callee := Callee.value (Operand.func 50), args := #[Operand.tmp 40, Operand.tmp 44], argTypes := #[95, 95] }, type := 0, pos := "tell.go:148", after := #[{ on := 2, ground := Ground.data }, { on := 6, ground := Ground.data }], guard := none }] true).wp Try.prog Q { tmps := #[x0, x1, x2, x3, .slice (some ⟨g, 0, none⟩) N N, x5, x6, x7, x8, iv (n : Int), x10, iv (k : Int), x12, x13, x14, x15, x16, x17, x18, x19, x20, x21, x22, x23, x24, x25, x26, x27, x28, x29, x30, x31, x32, x33, x34, x35, x36, x37, x38, x39, x40, x41, x42, x43, x44, x45, x46, x47, x48, x49, x50, x51, x52, x53, x54, x55, x56, x57, x58, x59, x60, x61, x62, x63, x64, x65, x66, x67, x68, x69, x70, x71, x72, x73], defers := ds } A := by
  refine Code.wp_mono (Q := fun x a' w' => match x with | .normal => Q .normal a' w' | _ => False) (by intro x a' w' h; cases x <;> first | exact h | exact h.elim) ?_
  refine wp_region_held (S := fun V => Keep (fun k => k = g) A V) (by kernel_rfl) ?_
  have hS0 : Hid (Keep (fun k => k = g) A A.drew) := (Keep.refl _ A).drew
  change wpAnyH Try.prog .any _ _ (fun V => Keep (fun k => k = g) A V) 8 (Array.replicate 8 false) _ A.drew
  obtain ⟨V0, hV0⟩ : ∃ V0, A.drew = V0 := ⟨_, rfl⟩
  rw [hV0]
  rw [hV0] at hS0
  have hX0 : Hid (Blk V0 g 95 (wsI l)) := by
    show Blk V0 g 95 (wsI l)
    rw [← hV0]
    exact HX.out
  clear hV0
  refine wpAnyH_take (i := 0) (oi := { dst := some 38, op := Op.move (Operand.tmp 4), type := 92, pos := "tell.go:148", after := #[], guard := none }) (v := .slice (some ⟨g, 0, none⟩) N N) rfl (by kernel_rfl) (by kernel_rfl) (by kernel_rfl) (fun _ _ _ h => h.elim) (Or.inl ⟨by rfl, ?y1⟩) hS0.out ?_
  case y1 =>
    intro V hV
    go_simp
  simp only [Act.put, List.setIfInBounds_toArray, List.set_cons_zero, List.set_cons_succ]
  refine wpAnyH_take (i := 1) (oi := { dst := some 39, op := Op.move (Operand.tmp 9), type := 3, pos := "tell.go:148", after := #[], guard := none }) (v := iv (n : Int)) rfl (by kernel_rfl) (by kernel_rfl) (by kernel_rfl) (fun _ _ _ h => h.elim) (Or.inl ⟨by rfl, ?y2⟩) hS0.out ?_
  case y2 =>
    intro V hV
    go_simp
  simp only [Act.put, List.setIfInBounds_toArray, List.set_cons_zero, List.set_cons_succ]
  refine wpAnyH_take (i := 2) (oi := { dst := some 40, op := Op.indexAddr 92 (Operand.tmp 38) (Operand.tmp 39), type := 0, pos := "tell.go:148", after := #[{ on := 0, ground := Ground.data }, { on := 1, ground := Ground.data }], guard := none }) (v := .pointer (some ⟨g, n * 8, none⟩)) rfl (by kernel_rfl) (by kernel_rfl) (by kernel_rfl) (fun _ _ _ h => h.elim) (Or.inl ⟨by rfl, ?y3⟩) hS0.out ?_
  case y3 =>
    intro V hV
    have hcmp := q1
    have hcmp2 := q2
    go_simp
  simp only [Act.put, List.setIfInBounds_toArray, List.set_cons_zero, List.set_cons_succ]
  refine wpAnyH_take (i := 3) (oi := { dst := some 41, op := Op.move (Operand.tmp 4), type := 92, pos := "tell.go:148", after := #[], guard := none }) (v := .slice (some ⟨g, 0, none⟩) N N) rfl (by kernel_rfl) (by kernel_rfl) (by kernel_rfl) (fun _ _ _ h => h.elim) (Or.inl ⟨by rfl, ?y4⟩) hS0.out ?_
  case y4 =>
    intro V hV
    go_simp
  simp only [Act.put, List.setIfInBounds_toArray, List.set_cons_zero, List.set_cons_succ]
  refine wpAnyH_take (i := 4) (oi := { dst := some 42, op := Op.move (Operand.tmp 11), type := 3, pos := "tell.go:148", after := #[], guard := none }) (v := iv (k : Int)) rfl (by kernel_rfl) (by kernel_rfl) (by kernel_rfl) (fun _ _ _ h => h.elim) (Or.inl ⟨by rfl, ?y5⟩) hS0.out ?_
  case y5 =>
    intro V hV
    go_simp
  simp only [Act.put, List.setIfInBounds_toArray, List.set_cons_zero, List.set_cons_succ]
  refine wpAnyH_take (i := 5) (oi := { dst := some 43, op := Op.indexAddr 92 (Operand.tmp 41) (Operand.tmp 42), type := 0, pos := "tell.go:148", after := #[{ on := 3, ground := Ground.data }, { on := 4, ground := Ground.data }], guard := none }) (v := .pointer (some ⟨g, k * 8, none⟩)) rfl (by kernel_rfl) (by kernel_rfl) (by kernel_rfl) (fun _ _ _ h => h.elim) (Or.inl ⟨by rfl, ?y6⟩) hS0.out ?_
  case y6 =>
    intro V hV
    have hcmp := q3
    have hcmp2 := q4
    go_simp
  simp only [Act.put, List.setIfInBounds_toArray, List.set_cons_zero, List.set_cons_succ]
  refine wpAnyH_ready (rs := [6]) (by kernel_rfl) (by simp) (AllReadyH.cons (i := 6) (o := { dst := some 44, op := Op.load 95 (Operand.tmp 43), type := 95, pos := "tell.go:148", after := #[{ on := 5, ground := Ground.data }], guard := none }) rfl ?_ AllReadyH.nil)
  · intro K1 hK1
    rw [if_pos (by rfl)]
    refine wp_load_mid 95 _ rfl g (k * 8) rfl (wsI ((l.drop (k * 8)).take 8)) _ (blk_words hX0.out) Try.underlying95 rfl (info95 (words_len HN.out.1 HN.out.2.1)) ?_
    refine hK1.out _ _ hS0.out ?_
    clear hK1
    intro _
    try simp only [Act.put, List.setIfInBounds_toArray, List.set_cons_zero, List.set_cons_succ]
    refine wpAnyH_ready (rs := [7]) (by kernel_rfl) (by simp) (AllReadyH.cons (i := 7) (o := { dst := some 45, op := Op.call { callee := Callee.value (Operand.func 50), args := #[Operand.tmp 40, Operand.tmp 44], argTypes := #[95, 95] }, type := 0, pos := "tell.go:148", after := #[{ on := 2, ground := Ground.data }, { on := 6, ground := Ground.data }], guard := none }) rfl ?_ AllReadyH.nil)
    · intro K1 hK1
      rw [if_pos (by rfl)]
      have HC2 := join_is V0 g (n * 8) l ((l.drop (k * 8)).take 8) hX0.out (by have := HN.out; omega) (words_len HN.out.1 HN.out.2.1)
      go_wp2_with fail
      refine HC2.mono ?_
      rintro e V2 ⟨⟨rv, rfl⟩, hk2, hx2⟩
      dsimp only
      clear HC2
      have hS2 : Hid (Keep (fun k => k = g) A V2) := (hS0.out).trans hk2 (fun _ h _ => h)
      have hX2 : Hid (Blk V2 g 95 (wsI (orW (n * 8) ((l.drop (k * 8)).take 8) 8 l))) := hx2
      clear hk2 hx2
      refine hK1.out _ _ hS2.out ?_
      clear hK1
      intro _
      try simp only [Act.put, List.setIfInBounds_toArray, List.set_cons_zero, List.set_cons_succ]
      refine wpAnyH_done (by kernel_rfl) ?_ _
      exact hQ V2 rv hS2.out hX2.out
set_option maxRecDepth 100000 in
set_option maxHeartbeats 4000000 in
theorem cf17 {Q : Exit → Act → World → Prop} {x0 x1 x2 x3 x8 x10 x11 x12 x13 x14 x15 x16 x17 x18 x19 x20 x21 x22 x23 x24 x25 x26 x27 x28 x29 x30 x31 x32 x33 x34 x35 x36 x37 x38 x39 x40 x41 x42 x43 x44 x45 x46 x47 x48 x49 x50 x51 x52 x53 x54 x55 x56 x57 x58 x59 x60 x61 x62 x63 x64 x65 x66 x67 x68 x69 x70 x71 x72 x73 : Value} {ds : List Deferred} {A : World} {g d5 N n : Nat} {pr be B : Int} {l s : List Int}
    (HL : Hid (g < A.heap.size ∧ d5 < A.heap.size)) (HR : Hid (A.rangeAt g (n * 8) (wsI ((l.drop (n * 8)).take 8)) ∧ A.rangeAt d5 0 (wsI s))) (HN : Hid (l.length = N * 8 ∧ n < N ∧ s.length = 8)) (HB : Hid (bothW ((l.drop (n * 8)).take 8) s 8 = B)) (q1 : (n : Int) < (N : Int)) (q2 : n < N)
    (hQ : ∀ V1, Below A.heap.size A V1 → Q .normal { tmps := #[x0, x1, x2, x3, .slice (some ⟨g, 0, none⟩) N N, .pointer (some ⟨d5, 0, none⟩), iv (wrap64 (pr + wrap64 (be - B))), iv be, x8, iv (n : Int), x10, x11, x12, x13, x14, x15, x16, x17, x18, x19, x20, x21, x22, x23, x24, x25, x26, x27, x28, x29, x30, x31, x32, x33, x34, x35, x36, x37, x38, x39, x40, x41, x42, x43, x44, x45, x46, x47, x48, x49, x50, x51, x52, x53, x54, x55, x56, x57, iv pr, iv be, .slice (some ⟨g, 0, none⟩) N N, iv (n : Int), .pointer (some ⟨g, n * 8, none⟩), .agg (wsI ((l.drop (n * 8)).take 8)).toArray, .agg (wsI s).toArray, iv B, iv (wrap64 (be - B)), iv (wrap64 (pr + wrap64 (be - B))), x68, x69, x70, x71, x72, x73], defers := ds } V1) :
    (Code.region 17 #[{ dst := some 58, op := Op.move (Operand.tmp 6), type := 3, pos := "tell.go:152", after := #[], guard := none }, { dst := some 59, op := Op.move (Operand.tmp 7), type := 3, pos := "tell.go:152", after := #[], guard := none }, { dst := some 60, op := Op.move (Operand.tmp 4), type := 92, pos := "tell.go:152", after := #[], guard := none }, { dst := some 61, op := Op.move (Operand.tmp 9), type := 3, pos := "tell.go:152", after := #[], guard := none }, { dst := some 62, op := Op.indexAddr 92 (Operand.tmp 60) (Operand.tmp 61), type := 0, pos := "tell.go:152", after := #[{ on := 2, ground := Ground.data }, { on := 3, ground := Ground.data }], guard := none }, { dst := some 63, op := Op.load 95 (Operand.tmp 62), type := 95, pos := "tell.go:152", after := #[{ on := 4, ground := Ground.data }], guard := none }, { dst := some 64, op := Op.load 95 (Operand.tmp 5), type := 95, pos := "tell.go:152", after := #[], guard := none }, { dst := some 65, op := Op.call { callee := Callee.value (Operand.func 53), args := #[Operand.tmp 63, Operand.tmp 64], argTypes := #[95, 95] }, type := 3, pos := "tell.go:152", after := #[{ on := 5, ground := Ground.data }, { on := 6, ground := Ground.data }], guard := none }, { dst := some 66, op := Op.binOp BinOp.sub 3 (Operand.tmp 59) (Operand.tmp 65) 3, type := 3, pos := "tell.go:152", after := #[{ on := 1, ground := Ground.data }, { on := 7, ground := Ground.data }], guard := none }, { dst := some 67, op := Op.binOp BinOp.add 3 (Operand.tmp 58) (Operand.tmp 66) 3, type := 3, pos := "tell.go:152", after := #[{ on := 0, ground := Ground.data }, { on := 8, ground := Ground.data }], guard := none }, { dst := some 6, op := Op.assign (Operand.tmp 67), type := 3, pos := "tell.go:152", after := #[{ on := 9, ground := Ground.data }, { on := 7, ground := Ground.chain }, { on := 0, ground := Ground.phase }, { on := 1, ground := Ground.phase }, { on := 2, ground := Ground.phase }, { on := 3, ground := Ground.phase }, { on := 4, ground := Ground.phase }, { on := 5, ground := Ground.phase }, { on := 6, ground := Ground.phase }, { on := 7, ground := Ground.phase }, { on := 8, ground := Ground.phase }, { on := 9, ground := Ground.phase }], guard := none }] true).wp Try.prog Q { tmps := #[x0, x1, x2, x3, .slice (some ⟨g, 0, none⟩) N N, .pointer (some ⟨d5, 0, none⟩), iv pr, iv be, x8, iv (n : Int), x10, x11, x12, x13, x14, x15, x16, x17, x18, x19, x20, x21, x22, x23, x24, x25, x26, x27, x28, x29, x30, x31, x32, x33, x34, x35, x36, x37, x38, x39, x40, x41, x42, x43, x44, x45, x46, x47, x48, x49, x50, x51, x52, x53, x54, x55, x56, x57, x58, x59, x60, x61, x62, x63, x64, x65, x66, x67, x68, x69, x70, x71, x72, x73], defers := ds } A := by
  refine Code.wp_mono (Q := fun x a' w' => match x with | .normal => Q .normal a' w' | _ => False) (by intro x a' w' h; cases x <;> first | exact h | exact h.elim) ?_
  refine wp_region_held (S := fun V => Below A.heap.size A V) (by kernel_rfl) ?_
  have hS0 : Hid (Below A.heap.size A A.drew) := below_drew0 A
  change wpAnyH Try.prog .any _ _ (fun V => Below A.heap.size A V) 11 (Array.replicate 11 false) _ A.drew
  obtain ⟨V0, hV0⟩ : ∃ V0, A.drew = V0 := ⟨_, rfl⟩
  rw [hV0]
  rw [hV0] at hS0
  clear hV0
  refine wpAnyH_take (i := 0) (oi := { dst := some 58, op := Op.move (Operand.tmp 6), type := 3, pos := "tell.go:152", after := #[], guard := none }) (v := iv pr) rfl (by kernel_rfl) (by kernel_rfl) (by kernel_rfl) (fun _ _ _ h => h.elim) (Or.inl ⟨by rfl, ?y1⟩) hS0.out ?_
  case y1 =>
    intro V hV
    go_simp
  simp only [Act.put, List.setIfInBounds_toArray, List.set_cons_zero, List.set_cons_succ]
  refine wpAnyH_take (i := 1) (oi := { dst := some 59, op := Op.move (Operand.tmp 7), type := 3, pos := "tell.go:152", after := #[], guard := none }) (v := iv be) rfl (by kernel_rfl) (by kernel_rfl) (by kernel_rfl) (fun _ _ _ h => h.elim) (Or.inl ⟨by rfl, ?y2⟩) hS0.out ?_
  case y2 =>
    intro V hV
    go_simp
  simp only [Act.put, List.setIfInBounds_toArray, List.set_cons_zero, List.set_cons_succ]
  refine wpAnyH_take (i := 2) (oi := { dst := some 60, op := Op.move (Operand.tmp 4), type := 92, pos := "tell.go:152", after := #[], guard := none }) (v := .slice (some ⟨g, 0, none⟩) N N) rfl (by kernel_rfl) (by kernel_rfl) (by kernel_rfl) (fun _ _ _ h => h.elim) (Or.inl ⟨by rfl, ?y3⟩) hS0.out ?_
  case y3 =>
    intro V hV
    go_simp
  simp only [Act.put, List.setIfInBounds_toArray, List.set_cons_zero, List.set_cons_succ]
  refine wpAnyH_take (i := 3) (oi := { dst := some 61, op := Op.move (Operand.tmp 9), type := 3, pos := "tell.go:152", after := #[], guard := none }) (v := iv (n : Int)) rfl (by kernel_rfl) (by kernel_rfl) (by kernel_rfl) (fun _ _ _ h => h.elim) (Or.inl ⟨by rfl, ?y4⟩) hS0.out ?_
  case y4 =>
    intro V hV
    go_simp
  simp only [Act.put, List.setIfInBounds_toArray, List.set_cons_zero, List.set_cons_succ]
  refine wpAnyH_take (i := 4) (oi := { dst := some 62, op := Op.indexAddr 92 (Operand.tmp 60) (Operand.tmp 61), type := 0, pos := "tell.go:152", after := #[{ on := 2, ground := Ground.data }, { on := 3, ground := Ground.data }], guard := none }) (v := .pointer (some ⟨g, n * 8, none⟩)) rfl (by kernel_rfl) (by kernel_rfl) (by kernel_rfl) (fun _ _ _ h => h.elim) (Or.inl ⟨by rfl, ?y5⟩) hS0.out ?_
  case y5 =>
    intro V hV
    have hcmp := q1
    have hcmp2 := q2
    go_simp
  simp only [Act.put, List.setIfInBounds_toArray, List.set_cons_zero, List.set_cons_succ]
  refine wpAnyH_take (i := 5) (oi := { dst := some 63, op := Op.load 95 (Operand.tmp 62), type := 95, pos := "tell.go:152", after := #[{ on := 4, ground := Ground.data }], guard := none }) (v := .agg (wsI ((l.drop (n * 8)).take 8)).toArray) rfl (by kernel_rfl) (by kernel_rfl) (by kernel_rfl) (fun _ _ _ h => h.elim) (yieldsIf_load_mid (by rfl) _ _ rfl _ _ rfl (wsI ((l.drop (n * 8)).take 8)) _ (fun V hV => rangeAt_same (HR.out.1) ((show Below A.heap.size A V from hV).block _ (HL.out.1))) Try.underlying95 rfl (info95 (words_len HN.out.1 HN.out.2.1))) hS0.out ?_
  simp only [Act.put, List.setIfInBounds_toArray, List.set_cons_zero, List.set_cons_succ]
  refine wpAnyH_take (i := 6) (oi := { dst := some 64, op := Op.load 95 (Operand.tmp 5), type := 95, pos := "tell.go:152", after := #[], guard := none }) (v := .agg (wsI s).toArray) rfl (by kernel_rfl) (by kernel_rfl) (by kernel_rfl) (fun _ _ _ h => h.elim) (yieldsIf_load_mid (by rfl) _ _ rfl _ _ rfl (wsI s) _ (fun V hV => rangeAt_same (HR.out.2) ((show Below A.heap.size A V from hV).block _ (HL.out.2))) Try.underlying95 rfl (info95 HN.out.2.2)) hS0.out ?_
  simp only [Act.put, List.setIfInBounds_toArray, List.set_cons_zero, List.set_cons_succ]
  refine wpAnyH_ready (rs := [7]) (by kernel_rfl) (by simp) (AllReadyH.cons (i := 7) (o := { dst := some 65, op := Op.call { callee := Callee.value (Operand.func 53), args := #[Operand.tmp 63, Operand.tmp 64], argTypes := #[95, 95] }, type := 3, pos := "tell.go:152", after := #[{ on := 5, ground := Ground.data }, { on := 6, ground := Ground.data }], guard := none }) rfl ?_ AllReadyH.nil)
  · intro K1 hK1
    rw [if_pos (by rfl)]
    have HC1 := both_is V0 ((l.drop (n * 8)).take 8) s (words_len HN.out.1 HN.out.2.1) HN.out.2.2 B HB.out
    go_wp2_with fail
    refine HC1.mono ?_
    rintro e V1 ⟨rfl, hb1⟩
    dsimp only
    clear HC1
    have hS1 : Hid (Below A.heap.size A V1) := hS0.out.trans (hb1.mono hS0.out.size)
    clear hb1
    refine hK1.out _ _ hS1.out ?_
    clear hK1
    intro _
    try simp only [Act.put, List.setIfInBounds_toArray, List.set_cons_zero, List.set_cons_succ]
    refine wpAnyH_take (i := 8) (oi := { dst := some 66, op := Op.binOp BinOp.sub 3 (Operand.tmp 59) (Operand.tmp 65) 3, type := 3, pos := "tell.go:152", after := #[{ on := 1, ground := Ground.data }, { on := 7, ground := Ground.data }], guard := none }) (v := iv (wrap64 (be - B))) rfl (by kernel_rfl) (by kernel_rfl) (by kernel_rfl) (fun _ _ _ h => h.elim) (Or.inl ⟨by rfl, ?y6⟩) hS1.out ?_
    case y6 =>
      intro V hV
      exact yl_bin V .sub 3 3 _ _ (iv be) (iv B) _ rfl rfl rfl rfl (by simp [go_sem]; exact IntWalk.i64_left _)
    simp only [Act.put, List.setIfInBounds_toArray, List.set_cons_zero, List.set_cons_succ]
    refine wpAnyH_take (i := 9) (oi := { dst := some 67, op := Op.binOp BinOp.add 3 (Operand.tmp 58) (Operand.tmp 66) 3, type := 3, pos := "tell.go:152", after := #[{ on := 0, ground := Ground.data }, { on := 8, ground := Ground.data }], guard := none }) (v := iv (wrap64 (pr + wrap64 (be - B)))) rfl (by kernel_rfl) (by kernel_rfl) (by kernel_rfl) (fun _ _ _ h => h.elim) (Or.inl ⟨by rfl, ?y7⟩) hS1.out ?_
    case y7 =>
      intro V hV
      exact yl_bin V .add 3 3 _ _ (iv pr) (iv (wrap64 (be - B))) _ rfl rfl rfl rfl (by simp [go_sem]; exact IntWalk.i64_left _)
    simp only [Act.put, List.setIfInBounds_toArray, List.set_cons_zero, List.set_cons_succ]
    refine wpAnyH_take (i := 10) (oi := { dst := some 6, op := Op.assign (Operand.tmp 67), type := 3, pos := "tell.go:152", after := #[{ on := 9, ground := Ground.data }, { on := 7, ground := Ground.chain }, { on := 0, ground := Ground.phase }, { on := 1, ground := Ground.phase }, { on := 2, ground := Ground.phase }, { on := 3, ground := Ground.phase }, { on := 4, ground := Ground.phase }, { on := 5, ground := Ground.phase }, { on := 6, ground := Ground.phase }, { on := 7, ground := Ground.phase }, { on := 8, ground := Ground.phase }, { on := 9, ground := Ground.phase }], guard := none }) (v := iv (wrap64 (pr + wrap64 (be - B)))) rfl (by kernel_rfl) (by kernel_rfl) (by kernel_rfl) (fun _ _ _ h => h.elim) (Or.inl ⟨by rfl, ?y8⟩) hS1.out ?_
    case y8 =>
      intro V hV
      go_simp
    simp only [Act.put, List.setIfInBounds_toArray, List.set_cons_zero, List.set_cons_succ]
    refine wpAnyH_done (by kernel_rfl) ?_ _
    exact hQ V1 hS1.out
end Go.Proofs.Ytjcihaohpbmogaa.Oct
