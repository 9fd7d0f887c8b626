/-
  Layer 11 (lines): Conflicts: its steps.
  Layer 11 (lines): Conflicts.
-/
import Derived.Test.YtjcihaohpbmogaaQpBH
/- Layer 11 (lines): Conflicts: its steps. -/
namespace Go.Proofs.Ytjcihaohpbmogaa.Oct
open Go.RowKit
set_option maxRecDepth 100000
set_option linter.unusedSimpArgs false
set_option linter.unusedVariables false
set_option linter.unusedSectionVars false

def jn (n : Nat) (ks : List Nat) (l : List Int) : List Int := ks.foldl (fun l k => putW (n * 8) k (orW (n * 8) ((l.drop (k * 8)).take 8) 8 l)) l
structure Cf where
  l : List Int
  s : List Int
  pairs : Int
  before : Int
def cfStep (fl : Nat → List Nat) (alive : Nat → Bool) (c : Cf) (n : Nat) : Cf :=
  if alive n then ⟨jn n (fl n) c.l, putW 0 n c.s, wrap64 (c.pairs + wrap64 (c.before - bothW (((jn n (fl n) c.l).drop (n * 8)).take 8) c.s 8)), wrap64 (c.before + 1)⟩
  else ⟨jn n (fl n) c.l, c.s, c.pairs, c.before⟩
def z8 : List Int := List.replicate 8 0
def confR (fl : Nat → List Nat) (alive : Nat → Bool) (N : Nat) (R : List Nat) : Cf := R.foldl (cfStep fl alive) ⟨List.replicate (N * 8) 0, z8, 0, 0⟩
theorem jn_len (n : Nat) : ∀ (ks : List Nat) (l : List Int), (jn n ks l).length = l.length
  | [], l => rfl
  | k :: ks, l => by
    show (jn n ks _).length = _
    rw [jn_len n ks, putW_len, orW_len]
theorem jn_take {n : Nat} {ks : List Nat} {j k : Nat} (h : ks[j]? = some k) (l : List Int) : jn n (ks.take (j + 1)) l = putW (n * 8) k (orW (n * 8) (((jn n (ks.take j) l).drop (k * 8)).take 8) 8 (jn n (ks.take j) l)) := by
  unfold jn
  rw [List.take_add_one, h, List.foldl_append]
  rfl
theorem blk_words {w : World} {g k : Nat} {l : List Int} (h : Blk w g 95 (wsI l)) : w.rangeAt g (k * 8) (wsI ((l.drop (k * 8)).take 8)) := by
  intro j v hj
  refine h.cell ?_
  unfold wsI at hj ⊢
  rw [List.getElem?_map] at hj ⊢
  rw [List.getElem?_take] at hj
  split at hj
  · rw [List.getElem?_drop] at hj
    exact hj
  · cases hj
theorem words_len {l : List Int} {k N : Nat} (hl : l.length = N * 8) (hk : k < N) : ((l.drop (k * 8)).take 8).length = 8 := by
  rw [List.length_take, List.length_drop, hl]
  omega
theorem zero95 (W : World) : (zeroValue 95).run Try.prog W = .ok (.agg (wsI z8).toArray) W := by kernel_rfl
section
variable {ops : Array Oper} {rest : List Oper} {o : Oper} {a : Act} {w : World} {Q : Exit → Act → World → Prop}
theorem inf95 : ∃ i z, Try.prog.info? 95 = some i ∧ i.zero = some z ∧ i.size = 8 ∧ i.bytes = 64 ∧ z.cells = (wsI (List.replicate 8 0)).toArray := by
  obtain ⟨i, hi, he⟩ := Option.map_eq_some_iff.1 (show (Try.prog.info? 95).map (fun i => (i.size, i.bytes, i.zero.map (·.cells))) = some (8, 64, some (wsI (List.replicate 8 0)).toArray) by kernel_rfl)
  simp only [Prod.mk.injEq] at he
  obtain ⟨z, hz, hz2⟩ := Option.map_eq_some_iff.1 he.2.2
  exact ⟨i, z, hi, hz, he.1, he.2.1, hz2⟩
theorem made95 {z : Value} (hz : z.cells = (wsI (List.replicate 8 0)).toArray) (n : Nat) : (madeCells z.cells (n * 8)).toList = wsI (List.replicate (n * 8) 0) := by
  apply List.ext_getElem?
  intro j
  by_cases hj : j < n * 8
  · have h8 : j % 8 < 8 := Nat.mod_lt _ (by omega)
    simp [madeCells, hj, hz, wsI, List.getElem?_replicate, List.getElem_replicate]
    generalize j % 8 = r at h8 ⊢
    rcases (show r = 0 ∨ r = 1 ∨ r = 2 ∨ r = 3 ∨ r = 4 ∨ r = 5 ∨ r = 6 ∨ r = 7 by omega) with rfl | rfl | rfl | rfl | rfl | rfl | rfl | rfl <;> rfl
  · simp [madeCells, hj, wsI, List.getElem?_replicate]
theorem wpList_mkW (hg : o.guard = none) (l c : Operand) (hop : o.op = Op.makeSlice 92 l c) (n : Nat) (hl : a.eval l = iv (n : Int)) (hc : a.eval c = iv (n : Int)) (hn : n ≤ 1000000)
    (hK : ∀ w', Blk w' w.heap.size 95 (wsI (List.replicate (n * 8) 0)) → Below w.heap.size w w' → wpList Try.prog ops Q rest (a.put o.dst (.slice (some ⟨w.heap.size, 0, none⟩) n n)) w') : wpList Try.prog ops Q (o :: rest) a w := by
  refine wpList_plain hg fun K' hK' => ?_
  obtain ⟨i, z, hi, hz, hs, hby, hzc⟩ := inf95
  obtain ⟨w', hrun, r1, r2⟩ := run_make_full (P := Try.prog) w w.heap.size 92 95 i z 8 Try.underlying92 hi hz hs .i64 .i64 n (by rw [hby]; omega) (by unfold maxLen; omega) (Nat.le_refl _)
  rw [made95 hzc] at r1
  unfold Oper.wp execOp
  simp [hop, hl, hc, hrun, Result.andThen]
  refine hK' _ _ (hK w' ?_ ⟨r2.os, r2.tape, r2.output, r2.size, fun k hk => r2.block k hk (by simp)⟩)
  rcases r1.2 with ⟨h1, _⟩ | ⟨g, cap, cur, h1, h2, h3, h4, h5, h6, h7⟩
  · cases h1
  · simp only [Value.slice.injEq, Option.some.injEq, Addr.mk.injEq] at h1
    obtain ⟨⟨rfl, _⟩, _, rfl⟩ := h1
    have e : cur = (wsI (List.replicate (n * 8) 0)).toArray := by
      apply Array.toList_inj.1
      rw [List.take_of_length_le (by simp [h6])] at h7
      simpa using h7
    rw [e] at h3
    exact h3
end
set_option maxRecDepth 100000 in
set_option maxHeartbeats 4000000 in
theorem cf13 {Q : Exit → Act → World → Prop} {x0 x1 x2 x3 x5 x6 x7 x8 x10 x12 x13 x14 x15 x16 x17 x18 x19 x20 x21 x22 x23 x24 x25 x26 x27 x28 x29 x30 x31 x32 x33 x34 x35 x36 x37 x38 x39 x40 x41 x42 x43 x44 x45 x46 x47 x48 x49 x50 x51 x52 x53 x54 x55 x56 x57 x58 x59 x60 x61 x62 x63 x64 x65 x66 x67 x68 x69 x70 x71 x72 x73 : Value} {ds : List Deferred} {A : World} {g N n k : Nat} {l : List Int}
    (HX : Hid (Blk A g 95 (wsI l))) (HN : Hid (l.length = N * 8 ∧ k < N ∧ n < N)) (q1 : (n : Int) < (N : Int)) (q2 : n < N) (q3 : (k : Int) < (N : Int)) (q4 : k < N)
    (hQ : ∀ V3 rv, Keep (fun k => k = g) A V3 → Blk V3 g 95 (wsI (orW (n * 8) ((l.drop (k * 8)).take 8) 8 l)) → Q .normal { tmps := #[x0, x1, x2, x3, .slice (some ⟨g, 0, none⟩) N N, x5, x6, x7, x8, iv (n : Int), x10, iv (k : Int), x12, x13, x14, x15, x16, x17, x18, x19, x20, x21, x22, x23, x24, x25, x26, x27, x28, x29, x30, x31, x32, x33, x34, x35, x36, x37, .slice (some ⟨g, 0, none⟩) N N, iv (n : Int), .pointer (some ⟨g, n * 8, none⟩), .slice (some ⟨g, 0, none⟩) N N, iv (k : Int), .pointer (some ⟨g, k * 8, none⟩), .agg (wsI ((l.drop (k * 8)).take 8)).toArray, rv, x46, x47, x48, x49, x50, x51, x52, x53, x54, x55, x56, x57, x58, x59, x60, x61, x62, x63, x64, x65, x66, x67, x68, x69, x70, x71, x72, x73], defers := ds } V3) :
    (Code.region 13 #[{ dst := some 38, op := Op.move (Operand.tmp 4), type := 92, pos := "tell.go:148", after := #[], guard := none }, { dst := some 39, op := Op.move (Operand.tmp 9), type := 3, pos := "tell.go:148", after := #[], guard := none }, { dst := some 40, op := Op.indexAddr 92 (Operand.tmp 38) (Operand.tmp 39), type := 0, pos := "tell.go:148", after := #[{ on := 0, ground := Ground.data }, { on := 1, ground := Ground.data }], guard := none }, { dst := some 41, op := Op.move (Operand.tmp 4), type := 92, pos := "tell.go:148", after := #[], guard := none }, { dst := some 42, op := Op.move (Operand.tmp 11), type := 3, pos := "tell.go:148", after := #[], guard := none }, { dst := some 43, op := Op.indexAddr 92 (Operand.tmp 41) (Operand.tmp 42), type := 0, pos := "tell.go:148", after := #[{ on := 3, ground := Ground.data }, { on := 4, ground := Ground.data }], guard := none }, { dst := some 44, op := Op.load 95 (Operand.tmp 43), type := 95, pos := "tell.go:148", after := #[{ on := 5, ground := Ground.data }], guard := none }, { dst := some 45, op := Op.call { callee := Callee.value (Operand.func 50), args := #[Operand.tmp 40, Operand.tmp 44], argTypes := #[95, 95] }, type := 0, pos := "tell.go:148", after := #[{ on := 2, ground := Ground.data }, { on := 6, ground := Ground.data }], guard := none }] true).wp Try.prog Q { tmps := #[x0, x1, x2, x3, .slice (some ⟨g, 0, none⟩) N N, x5, x6, x7, x8, iv (n : Int), x10, iv (k : Int), x12, x13, x14, x15, x16, x17, x18, x19, x20, x21, x22, x23, x24, x25, x26, x27, x28, x29, x30, x31, x32, x33, x34, x35, x36, x37, x38, x39, x40, x41, x42, x43, x44, x45, x46, x47, x48, x49, x50, x51, x52, x53, x54, x55, x56, x57, x58, x59, x60, x61, x62, x63, x64, x65, x66, x67, x68, x69, x70, x71, x72, x73], defers := ds } A := by
  refine Code.wp_mono (Q := fun x a' w' => match x with | .normal => Q .normal a' w' | _ => False) (by intro x a' w' h; cases x <;> first | exact h | exact h.elim) ?_
  refine wp_region_held (S := fun V => Keep (fun k => k = g) A V) (by kernel_rfl) ?_
  have hS0 : Hid (Keep (fun k => k = g) A A.drew) := (Keep.refl _ A).drew
  change wpAnyH Try.prog .any _ _ (fun V => Keep (fun k => k = g) A V) 8 (Array.replicate 8 false) _ A.drew
  obtain ⟨V0, hV0⟩ : ∃ V0, A.drew = V0 := ⟨_, rfl⟩
  rw [hV0]
  rw [hV0] at hS0
  have hX0 : Hid (Blk V0 g 95 (wsI l)) := by
    show Blk V0 g 95 (wsI l)
    rw [← hV0]
    exact HX.out
  clear hV0
  refine wpAnyH_take (i := 0) (oi := { dst := some 38, op := Op.move (Operand.tmp 4), type := 92, pos := "tell.go:148", after := #[], guard := none }) (v := .slice (some ⟨g, 0, none⟩) N N) rfl (by kernel_rfl) (by kernel_rfl) (by kernel_rfl) (fun _ _ _ h => h.elim) (Or.inl ⟨by rfl, ?y1⟩) hS0.out ?_
  case y1 =>
    intro V hV
    go_simp
  simp only [Act.put, List.setIfInBounds_toArray, List.set_cons_zero, List.set_cons_succ]
  refine wpAnyH_take (i := 1) (oi := { dst := some 39, op := Op.move (Operand.tmp 9), type := 3, pos := "tell.go:148", after := #[], guard := none }) (v := iv (n : Int)) rfl (by kernel_rfl) (by kernel_rfl) (by kernel_rfl) (fun _ _ _ h => h.elim) (Or.inl ⟨by rfl, ?y2⟩) hS0.out ?_
  case y2 =>
    intro V hV
    go_simp
  simp only [Act.put, List.setIfInBounds_toArray, List.set_cons_zero, List.set_cons_succ]
  refine wpAnyH_take (i := 2) (oi := { dst := some 40, op := Op.indexAddr 92 (Operand.tmp 38) (Operand.tmp 39), type := 0, pos := "tell.go:148", after := #[{ on := 0, ground := Ground.data }, { on := 1, ground := Ground.data }], guard := none }) (v := .pointer (some ⟨g, n * 8, none⟩)) rfl (by kernel_rfl) (by kernel_rfl) (by kernel_rfl) (fun _ _ _ h => h.elim) (Or.inl ⟨by rfl, ?y3⟩) hS0.out ?_
  case y3 =>
    intro V hV
    have hcmp := q1
    have hcmp2 := q2
    go_simp
  simp only [Act.put, List.setIfInBounds_toArray, List.set_cons_zero, List.set_cons_succ]
  refine wpAnyH_take (i := 3) (oi := { dst := some 41, op := Op.move (Operand.tmp 4), type := 92, pos := "tell.go:148", after := #[], guard := none }) (v := .slice (some ⟨g, 0, none⟩) N N) rfl (by kernel_rfl) (by kernel_rfl) (by kernel_rfl) (fun _ _ _ h => h.elim) (Or.inl ⟨by rfl, ?y4⟩) hS0.out ?_
  case y4 =>
    intro V hV
    go_simp
  simp only [Act.put, List.setIfInBounds_toArray, List.set_cons_zero, List.set_cons_succ]
  refine wpAnyH_take (i := 4) (oi := { dst := some 42, op := Op.move (Operand.tmp 11), type := 3, pos := "tell.go:148", after := #[], guard := none }) (v := iv (k : Int)) rfl (by kernel_rfl) (by kernel_rfl) (by kernel_rfl) (fun _ _ _ h => h.elim) (Or.inl ⟨by rfl, ?y5⟩) hS0.out ?_
  case y5 =>
    intro V hV
    go_simp
  simp only [Act.put, List.setIfInBounds_toArray, List.set_cons_zero, List.set_cons_succ]
  refine wpAnyH_take (i := 5) (oi := { dst := some 43, op := Op.indexAddr 92 (Operand.tmp 41) (Operand.tmp 42), type := 0, pos := "tell.go:148", after := #[{ on := 3, ground := Ground.data }, { on := 4, ground := Ground.data }], guard := none }) (v := .pointer (some ⟨g, k * 8, none⟩)) rfl (by kernel_rfl) (by kernel_rfl) (by kernel_rfl) (fun _ _ _ h => h.elim) (Or.inl ⟨by rfl, ?y6⟩) hS0.out ?_
  case y6 =>
    intro V hV
    have hcmp := q3
    have hcmp2 := q4
    go_simp
  simp only [Act.put, List.setIfInBounds_toArray, List.set_cons_zero, List.set_cons_succ]
  refine wpAnyH_ready (rs := [6]) (by kernel_rfl) (by simp) (AllReadyH.cons (i := 6) (o := { dst := some 44, op := Op.load 95 (Operand.tmp 43), type := 95, pos := "tell.go:148", after := #[{ on := 5, ground := Ground.data }], guard := none }) rfl ?_ AllReadyH.nil)
  · intro K1 hK1
    rw [if_pos (by rfl)]
    refine wp_load_mid 95 _ rfl g (k * 8) rfl (wsI ((l.drop (k * 8)).take 8)) _ (blk_words hX0.out) Try.underlying95 rfl (info95 (words_len HN.out.1 HN.out.2.1)) ?_
    refine hK1.out _ _ hS0.out ?_
    clear hK1
    intro _
    try simp only [Act.put, List.setIfInBounds_toArray, List.set_cons_zero, List.set_cons_succ]
    refine wpAnyH_ready (rs := [7]) (by kernel_rfl) (by simp) (AllReadyH.cons (i := 7) (o := { dst := some 45, op := Op.call { callee := Callee.value (Operand.func 50), args := #[Operand.tmp 40, Operand.tmp 44], argTypes := #[95, 95] }, type := 0, pos := "tell.go:148", after := #[{ on := 2, ground := Ground.data }, { on := 6, ground := Ground.data }], guard := none }) rfl ?_ AllReadyH.nil)
    · intro K1 hK1
      rw [if_pos (by rfl)]
      have HC2 := join_is V0 g (n * 8) l ((l.drop (k * 8)).take 8) hX0.out (by have := HN.out; omega) (words_len HN.out.1 HN.out.2.1)
      go_wp2_with fail
      refine HC2.mono ?_
      rintro e V2 ⟨⟨rv, rfl⟩, hk2, hx2⟩
      dsimp only
      clear HC2
      have hS2 : Hid (Keep (fun k => k = g) A V2) := (hS0.out).trans hk2 (fun _ h _ => h)
      have hX2 : Hid (Blk V2 g 95 (wsI (orW (n * 8) ((l.drop (k * 8)).take 8) 8 l))) := hx2
      clear hk2 hx2
      refine hK1.out _ _ hS2.out ?_
      clear hK1
      intro _
      try simp only [Act.put, List.setIfInBounds_toArray, List.set_cons_zero, List.set_cons_succ]
      refine wpAnyH_done (by kernel_rfl) ?_ _
      exact hQ V2 rv hS2.out hX2.out
set_option maxRecDepth 100000 in
set_option maxHeartbeats 4000000 in
theorem cf17 {Q : Exit → Act → World → Prop} {x0 x1 x2 x3 x8 x10 x11 x12 x13 x14 x15 x16 x17 x18 x19 x20 x21 x22 x23 x24 x25 x26 x27 x28 x29 x30 x31 x32 x33 x34 x35 x36 x37 x38 x39 x40 x41 x42 x43 x44 x45 x46 x47 x48 x49 x50 x51 x52 x53 x54 x55 x56 x57 x58 x59 x60 x61 x62 x63 x64 x65 x66 x67 x68 x69 x70 x71 x72 x73 : Value} {ds : List Deferred} {A : World} {g d5 N n : Nat} {pr be B : Int} {l s : List Int}
    (HL : Hid (g < A.heap.size ∧ d5 < A.heap.size)) (HR : Hid (A.rangeAt g (n * 8) (wsI ((l.drop (n * 8)).take 8)) ∧ A.rangeAt d5 0 (wsI s))) (HN : Hid (l.length = N * 8 ∧ n < N ∧ s.length = 8)) (HB : Hid (bothW ((l.drop (n * 8)).take 8) s 8 = B)) (q1 : (n : Int) < (N : Int)) (q2 : n < N)
    (hQ : ∀ V1, Below A.heap.size A V1 → Q .normal { tmps := #[x0, x1, x2, x3, .slice (some ⟨g, 0, none⟩) N N, .pointer (some ⟨d5, 0, none⟩), iv (wrap64 (pr + wrap64 (be - B))), iv be, x8, iv (n : Int), x10, x11, x12, x13, x14, x15, x16, x17, x18, x19, x20, x21, x22, x23, x24, x25, x26, x27, x28, x29, x30, x31, x32, x33, x34, x35, x36, x37, x38, x39, x40, x41, x42, x43, x44, x45, x46, x47, x48, x49, x50, x51, x52, x53, x54, x55, x56, x57, iv pr, iv be, .slice (some ⟨g, 0, none⟩) N N, iv (n : Int), .pointer (some ⟨g, n * 8, none⟩), .agg (wsI ((l.drop (n * 8)).take 8)).toArray, .agg (wsI s).toArray, iv B, iv (wrap64 (be - B)), iv (wrap64 (pr + wrap64 (be - B))), x68, x69, x70, x71, x72, x73], defers := ds } V1) :
    (Code.region 17 #[{ dst := some 58, op := Op.move (Operand.tmp 6), type := 3, pos := "tell.go:152", after := #[], guard := none }, { dst := some 59, op := Op.move (Operand.tmp 7), type := 3, pos := "tell.go:152", after := #[], guard := none }, { dst := some 60, op := Op.move (Operand.tmp 4), type := 92, pos := "tell.go:152", after := #[], guard := none }, { dst := some 61, op := Op.move (Operand.tmp 9), type := 3, pos := "tell.go:152", after := #[], guard := none }, { dst := some 62, op := Op.indexAddr 92 (Operand.tmp 60) (Operand.tmp 61), type := 0, pos := "tell.go:152", after := #[{ on := 2, ground := Ground.data }, { on := 3, ground := Ground.data }], guard := none }, { dst := some 63, op := Op.load 95 (Operand.tmp 62), type := 95, pos := "tell.go:152", after := #[{ on := 4, ground := Ground.data }], guard := none }, { dst := some 64, op := Op.load 95 (Operand.tmp 5), type := 95, pos := "tell.go:152", after := #[], guard := none }, { dst := some 65, op := Op.call { callee := Callee.value (Operand.func 53), args := #[Operand.tmp 63, Operand.tmp 64], argTypes := #[95, 95] }, type := 3, pos := "tell.go:152", after := #[{ on := 5, ground := Ground.data }, { on := 6, ground := Ground.data }], guard := none }, { dst := some 66, op := Op.binOp BinOp.sub 3 (Operand.tmp 59) (Operand.tmp 65) 3, type := 3, pos := "tell.go:152", after := #[{ on := 1, ground := Ground.data }, { on := 7, ground := Ground.data }], guard := none }, { dst := some 67, op := Op.binOp BinOp.add 3 (Operand.tmp 58) (Operand.tmp 66) 3, type := 3, pos := "tell.go:152", after := #[{ on := 0, ground := Ground.data }, { on := 8, ground := Ground.data }], guard := none }, { dst := some 6, op := Op.assign (Operand.tmp 67), type := 3, pos := "tell.go:152", after := #[{ on := 9, ground := Ground.data }, { on := 7, ground := Ground.chain }, { on := 0, ground := Ground.phase }, { on := 1, ground := Ground.phase }, { on := 2, ground := Ground.phase }, { on := 3, ground := Ground.phase }, { on := 4, ground := Ground.phase }, { on := 5, ground := Ground.phase }, { on := 6, ground := Ground.phase }, { on := 7, ground := Ground.phase }, { on := 8, ground := Ground.phase }, { on := 9, ground := Ground.phase }], guard := none }] true).wp Try.prog Q { tmps := #[x0, x1, x2, x3, .slice (some ⟨g, 0, none⟩) N N, .pointer (some ⟨d5, 0, none⟩), iv pr, iv be, x8, iv (n : Int), x10, x11, x12, x13, x14, x15, x16, x17, x18, x19, x20, x21, x22, x23, x24, x25, x26, x27, x28, x29, x30, x31, x32, x33, x34, x35, x36, x37, x38, x39, x40, x41, x42, x43, x44, x45, x46, x47, x48, x49, x50, x51, x52, x53, x54, x55, x56, x57, x58, x59, x60, x61, x62, x63, x64, x65, x66, x67, x68, x69, x70, x71, x72, x73], defers := ds } A := by
  refine Code.wp_mono (Q := fun x a' w' => match x with | .normal => Q .normal a' w' | _ => False) (by intro x a' w' h; cases x <;> first | exact h | exact h.elim) ?_
  refine wp_region_held (S := fun V => Below A.heap.size A V) (by kernel_rfl) ?_
  have hS0 : Hid (Below A.heap.size A A.drew) := below_drew0 A
  change wpAnyH Try.prog .any _ _ (fun V => Below A.heap.size A V) 11 (Array.replicate 11 false) _ A.drew
  obtain ⟨V0, hV0⟩ : ∃ V0, A.drew = V0 := ⟨_, rfl⟩
  rw [hV0]
  rw [hV0] at hS0
  clear hV0
  refine wpAnyH_take (i := 0) (oi := { dst := some 58, op := Op.move (Operand.tmp 6), type := 3, pos := "tell.go:152", after := #[], guard := none }) (v := iv pr) rfl (by kernel_rfl) (by kernel_rfl) (by kernel_rfl) (fun _ _ _ h => h.elim) (Or.inl ⟨by rfl, ?y1⟩) hS0.out ?_
  case y1 =>
    intro V hV
    go_simp
  simp only [Act.put, List.setIfInBounds_toArray, List.set_cons_zero, List.set_cons_succ]
  refine wpAnyH_take (i := 1) (oi := { dst := some 59, op := Op.move (Operand.tmp 7), type := 3, pos := "tell.go:152", after := #[], guard := none }) (v := iv be) rfl (by kernel_rfl) (by kernel_rfl) (by kernel_rfl) (fun _ _ _ h => h.elim) (Or.inl ⟨by rfl, ?y2⟩) hS0.out ?_
  case y2 =>
    intro V hV
    go_simp
  simp only [Act.put, List.setIfInBounds_toArray, List.set_cons_zero, List.set_cons_succ]
  refine wpAnyH_take (i := 2) (oi := { dst := some 60, op := Op.move (Operand.tmp 4), type := 92, pos := "tell.go:152", after := #[], guard := none }) (v := .slice (some ⟨g, 0, none⟩) N N) rfl (by kernel_rfl) (by kernel_rfl) (by kernel_rfl) (fun _ _ _ h => h.elim) (Or.inl ⟨by rfl, ?y3⟩) hS0.out ?_
  case y3 =>
    intro V hV
    go_simp
  simp only [Act.put, List.setIfInBounds_toArray, List.set_cons_zero, List.set_cons_succ]
  refine wpAnyH_take (i := 3) (oi := { dst := some 61, op := Op.move (Operand.tmp 9), type := 3, pos := "tell.go:152", after := #[], guard := none }) (v := iv (n : Int)) rfl (by kernel_rfl) (by kernel_rfl) (by kernel_rfl) (fun _ _ _ h => h.elim) (Or.inl ⟨by rfl, ?y4⟩) hS0.out ?_
  case y4 =>
    intro V hV
    go_simp
  simp only [Act.put, List.setIfInBounds_toArray, List.set_cons_zero, List.set_cons_succ]
  refine wpAnyH_take (i := 4) (oi := { dst := some 62, op := Op.indexAddr 92 (Operand.tmp 60) (Operand.tmp 61), type := 0, pos := "tell.go:152", after := #[{ on := 2, ground := Ground.data }, { on := 3, ground := Ground.data }], guard := none }) (v := .pointer (some ⟨g, n * 8, none⟩)) rfl (by kernel_rfl) (by kernel_rfl) (by kernel_rfl) (fun _ _ _ h => h.elim) (Or.inl ⟨by rfl, ?y5⟩) hS0.out ?_
  case y5 =>
    intro V hV
    have hcmp := q1
    have hcmp2 := q2
    go_simp
  simp only [Act.put, List.setIfInBounds_toArray, List.set_cons_zero, List.set_cons_succ]
  refine wpAnyH_take (i := 5) (oi := { dst := some 63, op := Op.load 95 (Operand.tmp 62), type := 95, pos := "tell.go:152", after := #[{ on := 4, ground := Ground.data }], guard := none }) (v := .agg (wsI ((l.drop (n * 8)).take 8)).toArray) rfl (by kernel_rfl) (by kernel_rfl) (by kernel_rfl) (fun _ _ _ h => h.elim) (yieldsIf_load_mid (by rfl) _ _ rfl _ _ rfl (wsI ((l.drop (n * 8)).take 8)) _ (fun V hV => rangeAt_same (HR.out.1) ((show Below A.heap.size A V from hV).block _ (HL.out.1))) Try.underlying95 rfl (info95 (words_len HN.out.1 HN.out.2.1))) hS0.out ?_
  simp only [Act.put, List.setIfInBounds_toArray, List.set_cons_zero, List.set_cons_succ]
  refine wpAnyH_take (i := 6) (oi := { dst := some 64, op := Op.load 95 (Operand.tmp 5), type := 95, pos := "tell.go:152", after := #[], guard := none }) (v := .agg (wsI s).toArray) rfl (by kernel_rfl) (by kernel_rfl) (by kernel_rfl) (fun _ _ _ h => h.elim) (yieldsIf_load_mid (by rfl) _ _ rfl _ _ rfl (wsI s) _ (fun V hV => rangeAt_same (HR.out.2) ((show Below A.heap.size A V from hV).block _ (HL.out.2))) Try.underlying95 rfl (info95 HN.out.2.2)) hS0.out ?_
  simp only [Act.put, List.setIfInBounds_toArray, List.set_cons_zero, List.set_cons_succ]
  refine wpAnyH_ready (rs := [7]) (by kernel_rfl) (by simp) (AllReadyH.cons (i := 7) (o := { dst := some 65, op := Op.call { callee := Callee.value (Operand.func 53), args := #[Operand.tmp 63, Operand.tmp 64], argTypes := #[95, 95] }, type := 3, pos := "tell.go:152", after := #[{ on := 5, ground := Ground.data }, { on := 6, ground := Ground.data }], guard := none }) rfl ?_ AllReadyH.nil)
  · intro K1 hK1
    rw [if_pos (by rfl)]
    have HC1 := both_is V0 ((l.drop (n * 8)).take 8) s (words_len HN.out.1 HN.out.2.1) HN.out.2.2 B HB.out
    go_wp2_with fail
    refine HC1.mono ?_
    rintro e V1 ⟨rfl, hb1⟩
    dsimp only
    clear HC1
    have hS1 : Hid (Below A.heap.size A V1) := hS0.out.trans (hb1.mono hS0.out.size)
    clear hb1
    refine hK1.out _ _ hS1.out ?_
    clear hK1
    intro _
    try simp only [Act.put, List.setIfInBounds_toArray, List.set_cons_zero, List.set_cons_succ]
    refine wpAnyH_take (i := 8) (oi := { dst := some 66, op := Op.binOp BinOp.sub 3 (Operand.tmp 59) (Operand.tmp 65) 3, type := 3, pos := "tell.go:152", after := #[{ on := 1, ground := Ground.data }, { on := 7, ground := Ground.data }], guard := none }) (v := iv (wrap64 (be - B))) rfl (by kernel_rfl) (by kernel_rfl) (by kernel_rfl) (fun _ _ _ h => h.elim) (Or.inl ⟨by rfl, ?y6⟩) hS1.out ?_
    case y6 =>
      intro V hV
      exact yl_bin V .sub 3 3 _ _ (iv be) (iv B) _ rfl rfl rfl rfl (by simp [go_sem]; exact IntWalk.i64_left _)
    simp only [Act.put, List.setIfInBounds_toArray, List.set_cons_zero, List.set_cons_succ]
    refine wpAnyH_take (i := 9) (oi := { dst := some 67, op := Op.binOp BinOp.add 3 (Operand.tmp 58) (Operand.tmp 66) 3, type := 3, pos := "tell.go:152", after := #[{ on := 0, ground := Ground.data }, { on := 8, ground := Ground.data }], guard := none }) (v := iv (wrap64 (pr + wrap64 (be - B)))) rfl (by kernel_rfl) (by kernel_rfl) (by kernel_rfl) (fun _ _ _ h => h.elim) (Or.inl ⟨by rfl, ?y7⟩) hS1.out ?_
    case y7 =>
      intro V hV
      exact yl_bin V .add 3 3 _ _ (iv pr) (iv (wrap64 (be - B))) _ rfl rfl rfl rfl (by simp [go_sem]; exact IntWalk.i64_left _)
    simp only [Act.put, List.setIfInBounds_toArray, List.set_cons_zero, List.set_cons_succ]
    refine wpAnyH_take (i := 10) (oi := { dst := some 6, op := Op.assign (Operand.tmp 67), type := 3, pos := "tell.go:152", after := #[{ on := 9, ground := Ground.data }, { on := 7, ground := Ground.chain }, { on := 0, ground := Ground.phase }, { on := 1, ground := Ground.phase }, { on := 2, ground := Ground.phase }, { on := 3, ground := Ground.phase }, { on := 4, ground := Ground.phase }, { on := 5, ground := Ground.phase }, { on := 6, ground := Ground.phase }, { on := 7, ground := Ground.phase }, { on := 8, ground := Ground.phase }, { on := 9, ground := Ground.phase }], guard := none }) (v := iv (wrap64 (pr + wrap64 (be - B)))) rfl (by kernel_rfl) (by kernel_rfl) (by kernel_rfl) (fun _ _ _ h => h.elim) (Or.inl ⟨by rfl, ?y8⟩) hS1.out ?_
    case y8 =>
      intro V hV
      go_simp
    simp only [Act.put, List.setIfInBounds_toArray, List.set_cons_zero, List.set_cons_succ]
    refine wpAnyH_done (by kernel_rfl) ?_ _
    exact hQ V1 hS1.out
end Go.Proofs.Ytjcihaohpbmogaa.Oct

/- Layer 11 (lines): Conflicts. -/
namespace Go.Proofs.Ytjcihaohpbmogaa.Oct
open Go.RowKit
set_option maxRecDepth 100000
set_option linter.unusedSimpArgs false
set_option linter.unusedVariables false
set_option linter.unusedSectionVars false

def Gm.alive (G : Gm) (vs : List Vx) (n : Nat) : Bool := match G.get (vs.getD n vTop) with
  | some l => decide (l.p.kills = [])
  | none => true
def Gm.conf (G : Gm) (vs : List Vx) : Int := (confR (flv G vs) (G.alive vs) vs.length (Gr.ordr (flv G vs) (List.range vs.length))).pairs
def Cf0 (N : Nat) : Cf := ⟨List.replicate (N * 8) 0, z8, 0, 0⟩
theorem foldl_take {α β : Type} (f : β → α → β) (b : β) (l : List α) (i : Nat) (x : α) (h : l[i]? = some x) : (l.take (i + 1)).foldl f b = f ((l.take i).foldl f b) x := by
  rw [List.take_add_one, h, List.foldl_append]
  rfl
theorem cf_len (fl : Nat → List Nat) (al : Nat → Bool) (c : Cf) (n : Nat) : (cfStep fl al c n).l.length = c.l.length ∧ (cfStep fl al c n).s.length = c.s.length := by
  unfold cfStep
  cases al n <;> simp [jn_len, putW_len]
theorem cfs_len (fl : Nat → List Nat) (al : Nat → Bool) : ∀ (R : List Nat) (c : Cf), (R.foldl (cfStep fl al) c).l.length = c.l.length ∧ (R.foldl (cfStep fl al) c).s.length = c.s.length
  | [], c => ⟨rfl, rfl⟩
  | n :: R, c => by
    have h1 := cfs_len fl al R (cfStep fl al c n)
    have h2 := cf_len fl al c n
    exact ⟨h1.1.trans h2.1, h1.2.trans h2.2⟩
theorem cf_pos (fl : Nat → List Nat) (al : Nat → Bool) (c : Cf) (n : Nat) (h : al n = true) : cfStep fl al c n = ⟨jn n (fl n) c.l, putW 0 n c.s, wrap64 (c.pairs + wrap64 (c.before - bothW (((jn n (fl n) c.l).drop (n * 8)).take 8) c.s 8)), wrap64 (c.before + 1)⟩ := by
  unfold cfStep
  rw [if_pos h]
theorem cf_neg (fl : Nat → List Nat) (al : Nat → Bool) (c : Cf) (n : Nat) (h : al n = false) : cfStep fl al c n = ⟨jn n (fl n) c.l, c.s, c.pairs, c.before⟩ := by
  unfold cfStep
  rw [if_neg (by rw [h]; decide)]
set_option maxHeartbeats 8000000 in
theorem conflicts_is {w : World} {p : Nat} {G : Gm} (h : GAt w p G) (F : Vx → Nat) (hF : G.acy F) : Calls Try.prog 25 #[.pointer (some ⟨p, 0, none⟩)] w fun e w' => ∃ vs, e = .returned (iv (G.conf vs)) ∧ Hid (G.rise vs) ∧ Hid (Below w.heap.size w w') := by
  have HG : Hid (GAt w p G ∧ G.acy F) := ⟨h, hF⟩
  have hz := zero80
  have hz5 := zero95
  clear h hF
  go_enter Try.func25, Try.ntmps25
  go_wp2_with fail
  refine (made_is HG.out.1).mono ?_
  rintro e w2 ⟨rfl, rfl⟩
  go_wp2_with fail
  refine (sheet_is HG.out.1).mono ?_
  rintro e W1 ⟨va, vc, la, lc, fa, fc, N, vs, rfl, HSG, HB⟩
  have H1 : Hid (Below w.heap.size w W1 ∧ ShR W1 G va la fa N vs ∧ N ≤ 512 ∧ vs.length = N) := by
    refine ⟨HB.out, HSG.out.1, ?_, HSG.out.1.1.1⟩
    have h1 := HSG.out.1.2.1.1.length_eq
    have h2 := HSG.out.1.1.1
    have h3 := HG.out.1.few
    simp [Gm.keys] at h1
    omega
  have q0 : (N : Int) ≤ 512 := by have := H1.out.2.2.1; omega
  clear HB HSG
  go_wp2_with (first
    | (with_reducible change wpList _ _ _ ({ dst := none, op := Op.store 80 _ _, type := _, pos := _, after := _, guard := _ } :: _) _ _
       refine Hid.out ?_)
    | fail)
  show wpList _ _ _ _ _ _
  refine wpList_store_fresh rfl 80 (.tmp 3) (.tmp 16) rfl (shc (.slice none 0 0) (.slice none 0 0) (.slice none 0 0)) (shc (.slice va N vc) (.slice la N lc) (.slice fa N fc)) 80 rfl rfl rfl (info80 _ _ _) (shc_one rfl rfl rfl) ?_
  obtain ⟨W3, hW3⟩ : ∃ W, W1.alloc (.cells (shc (.slice va N vc) (.slice la N lc) (.slice fa N fc)).toArray 80) = W := ⟨_, rfl⟩
  obtain ⟨d3, hd3⟩ : ∃ g, W1.heap.size = g := ⟨_, rfl⟩
  have H3 : Hid (Below w.heap.size w W3 ∧ Blk W3 d3 80 (shc (.slice va N vc) (.slice la N lc) (.slice fa N fc)) ∧ ShR W3 G va la fa N vs ∧ d3 < W3.heap.size) := by
    have hb : Below W1.heap.size W1 W3 := by rw [← hW3]; exact below_al _ _
    have hk : Blk W3 d3 80 (shc (.slice va N vc) (.slice la N lc) (.slice fa N fc)) := by rw [← hW3, ← hd3]; exact Blk.new W1 _ _
    exact ⟨below_tr H1.out.1 hb, hk, H1.out.2.1.below hb, hk.lt⟩
  rw [hW3, hd3]
  clear hW3 hd3 hz
  have c1 : W3.cell? ⟨d3, 1, none⟩ = some (.slice la N lc) := H3.out.2.1.cell rfl
  go_wp2_with (first
    | (with_reducible change wpList _ _ _ ({ dst := some 20, op := _, type := _, pos := _, after := _, guard := _ } :: _) _ _
       refine Hid.out ?_)
    | fail)
  show wpList _ _ _ _ _ _
  refine wpList_mkW rfl (.tmp 19) (.tmp 19) rfl N rfl rfl (by have := H1.out.2.2.1; omega) ?_
  intro W4 r1 r2
  obtain ⟨ga, hga⟩ : ∃ g, W3.heap.size = g := ⟨_, rfl⟩
  have H4 : Hid (Below W3.heap.size W3 W4 ∧ Blk W4 ga 95 (wsI (Cf0 N).l) ∧ Blk W4 d3 80 (shc (.slice va N vc) (.slice la N lc) (.slice fa N fc)) ∧ W3.heap.size = ga) := ⟨r2, by rw [← hga]; exact r1, H3.out.2.1.below r2 H3.out.2.2.2, hga⟩
  rw [hga]
  clear r1 r2 hga c1
  go_wp2_with (first
    | (with_reducible change wpList _ _ _ ({ dst := some 21, op := _, type := _, pos := _, after := _, guard := _ } :: _) _ _
       refine Hid.out ?_)
    | fail)
  show wpList _ _ _ _ _ _
  obtain ⟨W5, hW5⟩ : ∃ W, W4.alloc (.cells (wsI z8).toArray 95) = W := ⟨_, rfl⟩
  obtain ⟨d5, hd5⟩ : ∃ g, W4.heap.size = g := ⟨_, rfl⟩
  have H5 : Hid (Below W3.heap.size W3 W5 ∧ Blk W5 ga 95 (wsI (Cf0 N).l) ∧ Blk W5 d3 80 (shc (.slice va N vc) (.slice la N lc) (.slice fa N fc)) ∧ W3.heap.size = ga ∧ Blk W5 d5 95 (wsI (Cf0 N).s) ∧ ga < d5) := by
    have hb : Below W4.heap.size W4 W5 := by rw [← hW5]; exact below_al _ _
    refine ⟨H4.out.1.trans (hb.mono H4.out.1.size), H4.out.2.1.below hb H4.out.2.1.lt, H4.out.2.2.1.below hb H4.out.2.2.1.lt, H4.out.2.2.2, ?_, by rw [← hd5]; exact H4.out.2.1.lt⟩
    rw [← hW5, ← hd5]
    show Blk _ _ _ (wsI z8)
    simpa using Blk.new W4 (wsI z8).toArray 95
  rw [hW5, hd5]
  clear hW5 hd5 hz5 H4
  refine wpList_load_want rfl 80 (.tmp 3) rfl d3 0 rfl (shc (.slice va N vc) (.slice la N lc) (.slice fa N fc)) _ H5.out.2.2.1.range0 Try.underlying80 rfl (info80 _ _ _) ?_
  obtain ⟨R, hR⟩ : ∃ R, Gr.ordr (flv G vs) (List.range N) = R := ⟨_, rfl⟩
  have hln : ∀ n < N, ∀ k ∈ flv G vs n, k < N := fun n _ k hk => by rw [← H1.out.2.2.2]; exact fln_lt k hk
  have HA : Hid (∀ n < N, ∀ k ∈ flv G vs n, (fun n => F (vs.getD n vTop)) k < (fun n => F (vs.getD n vTop)) n) := by
    have h1 := acy_flv HG.out.2 H1.out.2.1.2.1
    rw [H1.out.2.2.2] at h1
    exact h1
  have HR : Hid (G.conf vs = (R.foldl (cfStep (flv G vs) (G.alive vs)) (Cf0 N)).pairs ∧ R.length = N ∧ (∀ k ∈ R, k < N) ∧ ∀ n < N, ∀ k ∈ flv G vs n, k < N) := by
    have h2 := Gr.ordr_told (from_N hln) (stays_N _ _) _ (rise_N HA.out) List.nodup_range
    rw [hR] at h2
    refine ⟨by unfold Gm.conf confR; rw [H1.out.2.2.2, hR]; rfl, by rw [h2.2.1, List.length_range], fun k hk => List.mem_range.1 ((h2.2.2 k).1 hk), hln⟩
  go_wp2_with fail
  have HO := hid_of (order_is W5 G va la fa vc lc fc N vs (H3.out.2.2.1.below H5.out.1) H1.out.2.2.1 HG.out.1.frs_len _ HA.out R hR)
  refine HO.out.mono ?_
  rintro e Y ⟨ra, rc, rfl, HC, HBY⟩
  have H6 : Hid (Below W3.heap.size W3 Y ∧ Blk Y ga 95 (wsI (Cf0 N).l) ∧ Blk Y d5 95 (wsI (Cf0 N).s) ∧ CR Y 3 ra N (ivs R)) := ⟨H5.out.1.trans (HBY.out.mono H5.out.1.size), H5.out.2.1.below HBY.out H5.out.2.1.lt, H5.out.2.2.2.2.1.below HBY.out H5.out.2.2.2.2.1.lt, HC.out⟩
  have HGA : Hid (W3.heap.size = ga ∧ ga < d5) := ⟨H5.out.2.2.2.1, H5.out.2.2.2.2.2⟩
  clear HC HBY HO H5 HA hR hln
  go_wp2
  go_loopw [24, 6, 7] (fun u pv bv wr => ∃ (i : Nat) (c : Cf), u = iv (i : Int) ∧ pv = iv c.pairs ∧ bv = iv c.before ∧ Hid (i ≤ N ∧ (R.take i).foldl (cfStep (flv G vs) (G.alive vs)) (Cf0 N) = c) ∧ Hid (Below W3.heap.size W3 wr ∧ Blk wr ga 95 (wsI c.l) ∧ Blk wr d5 95 (wsI c.s) ∧ CR wr 3 ra N (ivs R))) (fun u _ _ _ => N - (intOf u).toNat)
  case atStart => exact ⟨0, Cf0 N, rfl, rfl, rfl, ⟨Nat.zero_le _, rfl⟩, H6.out⟩
  case round =>
    obtain ⟨X, hX⟩ : ∃ X, X = wr := ⟨_, rfl⟩
    subst hX
    obtain ⟨i, c, rfl, rfl, rfl, HIN, HI⟩ := hrel
    clear H6
    by_cases hi : i < N
    · obtain ⟨n, hn⟩ : ∃ n, R[i]? = some n := ⟨_, List.getElem?_eq_getElem (by rw [HR.out.2.1]; exact hi)⟩
      have hnN : n < N := HR.out.2.2.1 n (List.mem_of_getElem? hn)
      obtain ⟨y, hy⟩ : ∃ y, vs[n]? = some y := ⟨_, List.getElem?_eq_getElem (by rw [H1.out.2.2.2]; exact hnN)⟩
      have hyk : y ∈ G.keys := H1.out.2.1.2.1.1.mem_iff.1 (List.mem_of_getElem? hy)
      obtain ⟨l, hl⟩ := Option.isSome_iff_exists.1 (get_some.trans (decide_eq_true hyk))
      have hl1 := get_mem hl
      have hyn : vs.getD n vTop = y := by rw [List.getD_eq_getElem?_getD, hy]; rfl
      have hfl : flv G vs n = fln vs (G.frs y) := by unfold flv; rw [hyn]
      have HX : Hid (i < N ∧ R[i]? = some n ∧ n < N ∧ l ∈ G.ls ∧ G.alive vs n = decide (l.p.kills = []) ∧ (G.ptrs vs)[n]? = some (.pointer (some ⟨l.blk, 0, none⟩))) := ⟨hi, hn, hnN, hl1.1, by unfold Gm.alive; rw [hyn, hl], by unfold Gm.ptrs; rw [List.getElem?_map, hy]; simp [hl, ptrOf]⟩
      have hcl := cfs_len (flv G vs) (G.alive vs) (R.take i) (Cf0 N)
      rw [HIN.out.2] at hcl
      have HCL : Hid (c.l.length = N * 8 ∧ c.s.length = 8) := ⟨by rw [hcl.1]; simp [Cf0], by rw [hcl.2]; rfl⟩
      have HSX := hid_of (H3.out.2.2.1.below HI.out.1)
      obtain ⟨g3, o3, rfl, hg3, hel3⟩ := HI.out.2.2.2.2 (by omega)
      obtain ⟨Fs, hF1, hF2, hF3⟩ := HSX.out.2.2.2
      obtain ⟨f, hf⟩ : ∃ f, Fs[n]? = some f := ⟨_, List.getElem?_eq_getElem (by rw [hF2]; exact hnN)⟩
      obtain ⟨g8, o8, rfl, hg8, hel8⟩ := hF1.2 (by omega)
      obtain ⟨f9, fc9, e9, hc9⟩ := hF3 n y f hy hf
      rw [← hfl] at e9 hc9
      subst e9
      have c3 : X.cell? ⟨g3, o3 + i, none⟩ = some (iv (n : Int)) := hel3 i _ (by unfold ivs; rw [List.getElem?_map, hn]; rfl)
      have c8 : X.cell? ⟨g8, o8 + n, none⟩ = some (.slice f9 (flv G vs n).length fc9) := hel8 n _ hf
      have HBX : Hid (Blk X d3 80 (shc (.slice va N vc) (.slice la N lc) (.slice (some ⟨g8, o8, none⟩) N fc))) := H3.out.2.1.below HI.out.1 H3.out.2.2.2
      have c2 : X.cell? ⟨d3, 2, none⟩ = some (.slice (some ⟨g8, o8, none⟩) N fc) := HBX.out.cell rfl
      obtain ⟨ks, hks⟩ : ∃ ks, flv G vs n = ks := ⟨_, rfl⟩
      have HK : Hid (flv G vs n = ks ∧ (∀ k ∈ ks, k < N) ∧ ks.length ≤ 100000) := by
        refine ⟨hks, by rw [← hks]; exact HR.out.2.2.2 n hnN, ?_⟩
        rw [← hks, hfl]
        have h1 : (fln vs (G.frs y)).length ≤ (G.frs y).length := List.length_filterMap_le _ _
        have h2 := HG.out.1.frs_len y
        omega
      rw [hks] at c8 hc9
      have HC9 := hid_of hc9
      have q1 : (i : Int) < (N : Int) := by omega
      have q2 : (n : Int) < (N : Int) := by omega
      have q5 : (ks.length : Int) ≤ 100000 := by have := HK.out.2.2; omega
      clear hel3 hel8 hF1 hF2 hF3 hf hn hy hyk hl hl1 hi hcl hyn hfl hks hc9 hnN
      go_wp2_with fail
      clear c2 c3 c8
      go_loopw [34] (fun u wr => ∃ j : Nat, u = iv (j : Int) ∧ Hid (j ≤ ks.length ∧ Below W3.heap.size W3 wr ∧ Blk wr ga 95 (wsI (jn n (ks.take j) c.l)) ∧ Blk wr d5 95 (wsI c.s) ∧ CR wr 3 (some ⟨g3, o3, none⟩) N (ivs R) ∧ CR wr 3 f9 ks.length (ivs ks))) (fun u _ => ks.length - (intOf u).toNat)
      case atStart => exact ⟨0, rfl, Nat.zero_le _, HI.out.1, HI.out.2.1, HI.out.2.2.1, HI.out.2.2.2, HC9.out⟩
      case round =>
        obtain ⟨Z, hZ⟩ : ∃ Z, Z = wr := ⟨_, rfl⟩
        subst hZ
        obtain ⟨j, rfl, HJ⟩ := hrel
        clear HI HC9 HBX HSX
        by_cases hj : j < ks.length
        · obtain ⟨k, hk⟩ : ∃ k, ks[j]? = some k := ⟨_, List.getElem?_eq_getElem hj⟩
          have hkN : k < N := HK.out.2.1 k (List.mem_of_getElem? hk)
          have HZ : Hid (j < ks.length ∧ ks[j]? = some k ∧ k < N) := ⟨hj, hk, hkN⟩
          obtain ⟨g9, o9, rfl, hg9, hel9⟩ := HJ.out.2.2.2.2.2.2 (by omega)
          have c9 : Z.cell? ⟨g9, o9 + j, none⟩ = some (iv (k : Int)) := hel9 j _ (by unfold ivs; rw [List.getElem?_map, hk]; rfl)
          have q3 : (k : Int) < (N : Int) := by omega
          have q4 : (j : Int) < (ks.length : Int) := by omega
          clear hel9 hk hkN hj
          go_wp2_with fail
          have HL : Hid ((jn n (ks.take j) c.l).length = N * 8 ∧ k < N ∧ n < N) := ⟨by rw [jn_len]; exact HCL.out.1, HZ.out.2.2, HX.out.2.2.1⟩
          refine cf13 (g := ga) (N := N) (n := n) (k := k) (l := jn n (ks.take j) c.l) HJ.out.2.2.1 HL q2 HX.out.2.2.1 q3 HZ.out.2.2 ?_
          intro V rv hk hx
          have hga := HGA.out
          have H7 : Hid (Below W3.heap.size W3 V ∧ Blk V ga 95 (wsI (orW (n * 8) (((jn n (ks.take j) c.l).drop (k * 8)).take 8) 8 (jn n (ks.take j) c.l))) ∧ Blk V d5 95 (wsI c.s) ∧ CR V 3 (some ⟨g3, o3, none⟩) N (ivs R) ∧ CR V 3 (some ⟨g9, o9, none⟩) ks.length (ivs ks)) := by
            have hne : ∀ g, (∃ C f, Z.heap[g]? = some (.cells C 3 f)) → ¬ g = ga := fun g ⟨C, f, h1⟩ e => by
              subst e
              have h2 := HJ.out.2.2.1
              unfold Blk at h2
              rw [h1] at h2
              cases h2
            refine ⟨HJ.out.2.1.trans (hk.toBelow HJ.out.2.1.size (fun k hk => by have := hga.1; omega)), hx, hk.blk HJ.out.2.2.2.1 (by have := hga.2; omega), HJ.out.2.2.2.2.1.same fun g off _ h1 => hk.block g ?_ (hne g h1), HJ.out.2.2.2.2.2.same fun g off _ h1 => hk.block g ?_ (hne g h1)⟩
            · obtain ⟨C, f, h2⟩ := h1; exact (Array.getElem?_eq_some_iff.1 h2).1
            · obtain ⟨C, f, h2⟩ := h1; exact (Array.getElem?_eq_some_iff.1 h2).1
          clear hk hx c9 hga
          go_wp2_with fail
          refine (put_is V ga (n * 8) k _ H7.out.2.1 (by rw [orW_len, jn_len, HCL.out.1]; have := HX.out.2.2.1; omega) (by have := HZ.out.2.2; have := H1.out.2.2.1; omega)).mono ?_
          rintro e V2 ⟨⟨rv2, rfl⟩, hk, hx⟩
          have hga := HGA.out
          have H8 : Hid (j + 1 ≤ ks.length ∧ Below W3.heap.size W3 V2 ∧ Blk V2 ga 95 (wsI (jn n (ks.take (j + 1)) c.l)) ∧ Blk V2 d5 95 (wsI c.s) ∧ CR V2 3 (some ⟨g3, o3, none⟩) N (ivs R) ∧ CR V2 3 (some ⟨g9, o9, none⟩) ks.length (ivs ks)) := by
            have hne : ∀ g, (∃ C f, V.heap[g]? = some (.cells C 3 f)) → ¬ g = ga := fun g ⟨C, f, h1⟩ e => by
              subst e
              have h2 := H7.out.2.1
              unfold Blk at h2
              rw [h1] at h2
              cases h2
            refine ⟨HZ.out.1, H7.out.1.trans (hk.toBelow H7.out.1.size (fun k hk => by have := hga.1; omega)), by rw [jn_take HZ.out.2.1]; exact hx, hk.blk H7.out.2.2.1 (by have := hga.2; omega), H7.out.2.2.2.1.same fun g off _ h1 => hk.block g ?_ (hne g h1), H7.out.2.2.2.2.same fun g off _ h1 => hk.block g ?_ (hne g h1)⟩
            · obtain ⟨C, f, h2⟩ := h1; exact (Array.getElem?_eq_some_iff.1 h2).1
            · obtain ⟨C, f, h2⟩ := h1; exact (Array.getElem?_eq_some_iff.1 h2).1
          clear hk hx hga H7 HJ
          go_wp2
          refine ⟨⟨j + 1, by simp, H8.out⟩, ?_⟩
          have := HZ.out.1; simp [intOf]; omega
        · have q4 : ¬ (j : Int) < (ks.length : Int) := by omega
          obtain rfl : j = ks.length := by have := HJ.out.1; omega
          obtain ⟨lc', hlc⟩ : ∃ l, jn n ks c.l = l := ⟨_, rfl⟩
          have HM : Hid (Below W3.heap.size W3 Z ∧ Blk Z ga 95 (wsI lc') ∧ Blk Z d5 95 (wsI c.s) ∧ CR Z 3 (some ⟨g3, o3, none⟩) N (ivs R) ∧ jn n (flv G vs n) c.l = lc' ∧ lc'.length = N * 8) := by
            have h1 := HJ.out.2.2.1
            rw [List.take_of_length_le (Nat.le_refl _), hlc] at h1
            refine ⟨HJ.out.2.1, h1, HJ.out.2.2.2.1, HJ.out.2.2.2.2.1, by rw [HK.out.1]; exact hlc, by rw [← hlc, jn_len]; exact HCL.out.1⟩
          clear HJ hj hlc
          obtain ⟨g7, o7, rfl, hg7, hel7⟩ := (H3.out.2.2.1.below HM.out.1).2.2.1.2 (by have := HX.out.1; omega)
          have c7 : Z.cell? ⟨g7, o7 + n, none⟩ = some (.pointer (some ⟨l.blk, 0, none⟩)) := hel7 n _ HX.out.2.2.2.2.2
          have c1 : Z.cell? ⟨d3, 1, none⟩ = some (.slice (some ⟨g7, o7, none⟩) N lc) := (H3.out.2.1.below HM.out.1 H3.out.2.2.2).cell rfl
          clear hel7 hg7
          go_wp2_with fail
          clear c1 c7
          have HGZ := hid_of (HG.out.1.below (below_tr H3.out.1 HM.out.1))
          refine (alive_is HGZ.out HX.out.2.2.2.1).mono ?_
          rintro e Z1 ⟨rfl, rfl⟩
          rw [← HX.out.2.2.2.2.1]
          cases hal : G.alive vs n with
          | false =>
            have HST : Hid (Below W3.heap.size W3 Z ∧ cfStep (flv G vs) (G.alive vs) c n = ⟨lc', c.s, c.pairs, c.before⟩) := ⟨HM.out.1, by rw [cf_neg _ _ _ _ hal, HM.out.2.2.2.2.1]⟩
            clear hal
            go_wp2
            refine ⟨⟨i + 1, cfStep (flv G vs) (G.alive vs) c n, by simp, by rw [HST.out.2], by rw [HST.out.2], ⟨HX.out.1, by rw [foldl_take _ _ _ _ _ HX.out.2.1, HIN.out.2]⟩, ?_⟩, ?_⟩
            · rw [HST.out.2]
              exact ⟨HM.out.1, HM.out.2.1, HM.out.2.2.1, HM.out.2.2.2.1⟩
            · have := HX.out.1; simp [intOf]; omega
          | true =>
            obtain ⟨B, hB⟩ : ∃ B, bothW ((lc'.drop (n * 8)).take 8) c.s 8 = B := ⟨_, rfl⟩
            have HST : Hid (cfStep (flv G vs) (G.alive vs) c n = ⟨lc', putW 0 n c.s, wrap64 (c.pairs + wrap64 (c.before - B)), wrap64 (c.before + 1)⟩) := by
              rw [cf_pos _ _ _ _ hal, HM.out.2.2.2.2.1, hB]
              rfl
            have HBB : Hid (bothW ((lc'.drop (n * 8)).take 8) c.s 8 = B) := hB
            clear hal hB
            go_wp2_with fail
            refine cf17 (g := ga) (d5 := d5) (N := N) (n := n) (l := lc') (s := c.s) ⟨HM.out.2.1.lt, HM.out.2.2.1.lt⟩ ⟨blk_words HM.out.2.1, HM.out.2.2.1.range0⟩ ⟨HM.out.2.2.2.2.2, HX.out.2.2.1, HCL.out.2⟩ HBB q2 HX.out.2.2.1 ?_
            intro V hb
            have H7 : Hid (Below W3.heap.size W3 V ∧ Blk V ga 95 (wsI lc') ∧ Blk V d5 95 (wsI c.s) ∧ CR V 3 (some ⟨g3, o3, none⟩) N (ivs R)) := ⟨HM.out.1.trans (hb.mono HM.out.1.size), HM.out.2.1.below hb HM.out.2.1.lt, HM.out.2.2.1.below hb HM.out.2.2.1.lt, HM.out.2.2.2.1.below hb⟩
            clear hb
            go_wp2_with fail
            refine (put_is V d5 0 n c.s H7.out.2.2.1 (by rw [HCL.out.2]; exact Nat.le_refl 8) (by have := HX.out.2.2.1; have := H1.out.2.2.1; omega)).mono ?_
            rintro e V2 ⟨⟨rv2, rfl⟩, hk, hx⟩
            have hga := HGA.out
            have H8 : Hid (Below W3.heap.size W3 V2 ∧ Blk V2 ga 95 (wsI lc') ∧ Blk V2 d5 95 (wsI (putW 0 n c.s)) ∧ CR V2 3 (some ⟨g3, o3, none⟩) N (ivs R)) := by
              refine ⟨H7.out.1.trans (hk.toBelow H7.out.1.size (fun k hk => by have := hga.1; have := hga.2; omega)), hk.blk H7.out.2.1 (by have := hga.2; omega), hx, H7.out.2.2.2.same fun g off _ h1 => hk.block g ?_ (fun e => ?_)⟩
              · obtain ⟨C, f, h2⟩ := h1; exact (Array.getElem?_eq_some_iff.1 h2).1
              · obtain ⟨C, f, h1⟩ := h1
                subst e
                have h2 := H7.out.2.2.1
                unfold Blk at h2
                rw [h1] at h2
                cases h2
            clear hk hx hga H7
            go_wp2
            refine ⟨⟨i + 1, _, by simp, ?_, ?_, ⟨HX.out.1, foldl_take _ _ _ _ _ HX.out.2.1⟩, ?_⟩, ?_⟩
            · rw [HIN.out.2, HST.out]
            · rw [HIN.out.2, HST.out]
            · rw [HIN.out.2, HST.out]
              exact H8.out
            · have := HX.out.1; simp [intOf]; omega
    · have q1 : ¬ (i : Int) < (N : Int) := by omega
      obtain rfl : i = N := by have := HIN.out.1; omega
      have HE : Hid (c.pairs = G.conf vs ∧ Below w.heap.size w X) := by
        refine ⟨?_, below_tr H3.out.1 HI.out.1⟩
        have h1 := HIN.out.2
        rw [List.take_of_length_le (by rw [HR.out.2.1]; exact Nat.le_refl _)] at h1
        rw [HR.out.1, h1]
      clear HI hi
      go_wp2
      go_ret
      exact ⟨vs, by rw [← HE.out.1]; rfl, H1.out.2.1.2.1, HE.out.2⟩
end Go.Proofs.Ytjcihaohpbmogaa.Oct
