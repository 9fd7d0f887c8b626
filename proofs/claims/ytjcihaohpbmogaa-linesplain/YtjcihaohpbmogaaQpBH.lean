/-
  Layer 11 (lines): sets of lines: put, join, both.
-/
import Derived.Test.YtjcihaohpbmogaaQpAL
/- Layer 11 (lines): sets of lines: put, join, both. -/
namespace Go.Proofs.Ytjcihaohpbmogaa.Oct
open Go.RowKit
set_option maxRecDepth 100000
set_option linter.unusedSimpArgs false
set_option linter.unusedVariables false
set_option linter.unusedSectionVars false

def wsI (l : List Int) : List Value := l.map fun x => .int .u64 x
theorem wsI_at {l : List Int} {i : Nat} {x : Int} (h : l[i]? = some x) : (wsI l)[i]? = some (.int .u64 x) := by unfold wsI; rw [List.getElem?_map, h]; rfl
theorem wsI_set (l : List Int) (i : Nat) (x : Int) : (wsI l).set i (.int .u64 x) = wsI (l.set i x) := by unfold wsI; rw [List.map_set]
theorem wsI_one (l : List Int) : ∀ v ∈ wsI l, v.oneCell' = true := by
  intro v hv
  obtain ⟨x, _, rfl⟩ := List.mem_map.1 hv
  rfl
theorem getD_at {l : List Int} {i : Nat} (h : i < l.length) : l[i]? = some (l.getD i 0) := by
  rw [List.getD_eq_getElem?_getD, List.getElem?_eq_getElem h]
  rfl
def orB (a b : Int) : Int := bits .or .u64 a b
def bitI (r : Nat) : Int := IntKind.u64.wrap (1 * 2 ^ r)
def putW (o n : Nat) (l : List Int) : List Int := l.set (o + n / 64) (orB (l.getD (o + n / 64) 0) (bitI (n % 64)))
def orW (o : Nat) (X : List Int) : Nat → List Int → List Int
  | 0, l => l
  | i + 1, l => (orW o X i l).set (o + i) (orB ((orW o X i l).getD (o + i) 0) (X.getD i 0))
def bothW (S X : List Int) : Nat → Int
  | 0 => 0
  | i + 1 => wrap64 (bothW S X i + ones (bits .and .u64 (S.getD i 0) (X.getD i 0)))
theorem orW_len (o : Nat) (X : List Int) : ∀ (i : Nat) (l : List Int), (orW o X i l).length = l.length
  | 0, l => rfl
  | i + 1, l => by unfold orW; rw [List.length_set, orW_len o X i l]
theorem putW_len (o n : Nat) (l : List Int) : (putW o n l).length = l.length := by unfold putW; rw [List.length_set]
theorem or_run (a b : Int) (W : World) : (binOp .or 93 (.int .u64 a) (.int .u64 b)).run Try.prog W = .ok (.int .u64 (orB a b)) W := by simp [binOp_or, Op.intBits, orB, bits]
set_option maxRecDepth 100000 in
set_option maxHeartbeats 4000000 in
theorem pt0 {Q : Exit → Act → World → Prop} {x2 x3 x4 x5 x6 x7 x8 x9 x10 x11 x12 x13 x14 x15 : Value} {ds : List Deferred} {A : World} {g o : Nat} {L : List Value} {n q r : Nat} {s : Int}
    (HX : Hid (Blk A g 95 L)) (HC : Hid (L[o + q]? = some (.int .u64 s))) (q1 : (q : Int) < 8) (q2 : q < 8) (HQ : Hid (∀ V, (binOp .quo 3 (iv (n : Int)) (iv 64)).run Try.prog V = .ok (iv (q : Int)) V)) (HM : Hid (∀ V, (binOp .rem 3 (iv (n : Int)) (iv 64)).run Try.prog V = .ok (iv (r : Int)) V)) (HS : Hid (∀ V, (binOp .shl 93 (.int .u64 1) (iv (r : Int))).run Try.prog V = .ok (.int .u64 (bitI r)) V))
    (hQ : ∀ V3, Keep (fun k => k = g) A V3 → Blk V3 g 95 (L.set (o + q) (.int .u64 (orB s (bitI r)))) → Q .normal { tmps := #[.pointer (some ⟨g, o, none⟩), iv (n : Int), x2, x3, .pointer (some ⟨g, o, none⟩), iv (n : Int), iv (q : Int), .pointer (some ⟨g, o, none⟩), .pointer (some ⟨g, o + q, none⟩), .int .u64 s, iv (n : Int), iv (r : Int), .int .u64 (bitI r), .int .u64 (orB s (bitI r)), .pointer (some ⟨g, o, none⟩), .pointer (some ⟨g, o + q, none⟩)], defers := ds } V3) :
    (Code.region 0 #[{ dst := some 4, op := Op.move (Operand.tmp 0), type := 123, pos := "tell.go:120", after := #[], guard := none }, { dst := some 5, op := Op.move (Operand.tmp 1), type := 3, pos := "tell.go:120", after := #[], guard := none }, { dst := some 6, op := Op.binOp BinOp.quo 3 (Operand.tmp 5) (Operand.const (Value.int IntKind.i64 64)) 3, type := 3, pos := "tell.go:120", after := #[{ on := 1, ground := Ground.data }], guard := none }, { dst := some 7, op := Op.nilCheck (Operand.tmp 4), type := 0, pos := "tell.go:120", after := #[{ on := 0, ground := Ground.data }], guard := none }, { dst := some 8, op := Op.indexAddr 95 (Operand.tmp 7) (Operand.tmp 6), type := 0, pos := "tell.go:120", after := #[{ on := 3, ground := Ground.data }, { on := 2, ground := Ground.data }], guard := none }, { dst := some 9, op := Op.load 93 (Operand.tmp 8), type := 93, pos := "tell.go:120", after := #[{ on := 4, ground := Ground.data }], guard := none }, { dst := some 10, op := Op.move (Operand.tmp 1), type := 3, pos := "tell.go:120", after := #[], guard := none }, { dst := some 11, op := Op.binOp BinOp.rem 3 (Operand.tmp 10) (Operand.const (Value.int IntKind.i64 64)) 3, type := 3, pos := "tell.go:120", after := #[{ on := 6, ground := Ground.data }], guard := none }, { dst := some 12, op := Op.binOp BinOp.shl 93 (Operand.const (Value.int IntKind.u64 1)) (Operand.tmp 11) 3, type := 93, pos := "tell.go:120", after := #[{ on := 7, ground := Ground.data }], guard := none }, { dst := some 13, op := Op.binOp BinOp.or 93 (Operand.tmp 9) (Operand.tmp 12) 93, type := 93, pos := "tell.go:120", after := #[{ on := 5, ground := Ground.data }, { on := 8, ground := Ground.data }], guard := none }, { dst := some 14, op := Op.nilCheck (Operand.tmp 4), type := 0, pos := "tell.go:120", after := #[{ on := 0, ground := Ground.data }], guard := none }, { dst := some 15, op := Op.indexAddr 95 (Operand.tmp 14) (Operand.tmp 6), type := 0, pos := "tell.go:120", after := #[{ on := 10, ground := Ground.data }, { on := 2, ground := Ground.data }, { on := 0, ground := Ground.phase }, { on := 1, ground := Ground.phase }, { on := 2, ground := Ground.phase }, { on := 3, ground := Ground.phase }, { on := 4, ground := Ground.phase }, { on := 5, ground := Ground.phase }, { on := 6, ground := Ground.phase }, { on := 7, ground := Ground.phase }, { on := 8, ground := Ground.phase }, { on := 9, ground := Ground.phase }], guard := none }, { dst := none, op := Op.store 93 (Operand.tmp 15) (Operand.tmp 13), type := 0, pos := "tell.go:120", after := #[{ on := 11, ground := Ground.data }, { on := 9, ground := Ground.data }, { on := 0, ground := Ground.phase }, { on := 1, ground := Ground.phase }, { on := 2, ground := Ground.phase }, { on := 3, ground := Ground.phase }, { on := 4, ground := Ground.phase }, { on := 5, ground := Ground.phase }, { on := 6, ground := Ground.phase }, { on := 7, ground := Ground.phase }, { on := 8, ground := Ground.phase }, { on := 9, ground := Ground.phase }], guard := none }] true).wp Try.prog Q { tmps := #[.pointer (some ⟨g, o, none⟩), iv (n : Int), x2, x3, x4, x5, x6, x7, x8, x9, x10, x11, x12, x13, x14, x15], defers := ds } A := by
  refine Code.wp_mono (Q := fun x a' w' => match x with | .normal => Q .normal a' w' | _ => False) (by intro x a' w' h; cases x <;> first | exact h | exact h.elim) ?_
  refine wp_region_held (S := fun V => Keep (fun k => k = g) A V) (by kernel_rfl) ?_
  have hS0 : Hid (Keep (fun k => k = g) A A.drew) := (Keep.refl _ A).drew
  change wpAnyH Try.prog .any _ _ (fun V => Keep (fun k => k = g) A V) 13 (Array.replicate 13 false) _ A.drew
  obtain ⟨V0, hV0⟩ : ∃ V0, A.drew = V0 := ⟨_, rfl⟩
  rw [hV0]
  rw [hV0] at hS0
  have hX0 : Hid (Blk V0 g 95 L) := by
    show Blk V0 g 95 L
    rw [← hV0]
    exact HX.out
  clear hV0
  refine wpAnyH_take (i := 0) (oi := { dst := some 4, op := Op.move (Operand.tmp 0), type := 123, pos := "tell.go:120", after := #[], guard := none }) (v := .pointer (some ⟨g, o, none⟩)) rfl (by kernel_rfl) (by kernel_rfl) (by kernel_rfl) (fun _ _ _ h => h.elim) (Or.inl ⟨by rfl, ?y1⟩) hS0.out ?_
  case y1 =>
    intro V hV
    go_simp
  simp only [Act.put, List.setIfInBounds_toArray, List.set_cons_zero, List.set_cons_succ]
  refine wpAnyH_take (i := 1) (oi := { dst := some 5, op := Op.move (Operand.tmp 1), type := 3, pos := "tell.go:120", after := #[], guard := none }) (v := iv (n : Int)) rfl (by kernel_rfl) (by kernel_rfl) (by kernel_rfl) (fun _ _ _ h => h.elim) (Or.inl ⟨by rfl, ?y2⟩) hS0.out ?_
  case y2 =>
    intro V hV
    go_simp
  simp only [Act.put, List.setIfInBounds_toArray, List.set_cons_zero, List.set_cons_succ]
  refine wpAnyH_take (i := 2) (oi := { dst := some 6, op := Op.binOp BinOp.quo 3 (Operand.tmp 5) (Operand.const (Value.int IntKind.i64 64)) 3, type := 3, pos := "tell.go:120", after := #[{ on := 1, ground := Ground.data }], guard := none }) (v := iv (q : Int)) rfl (by kernel_rfl) (by kernel_rfl) (by kernel_rfl) (fun _ _ _ h => h.elim) (Or.inl ⟨by rfl, ?y3⟩) hS0.out ?_
  case y3 =>
    intro V hV
    exact yl_bin V .quo 3 3 _ _ (iv (n : Int)) (iv 64) _ rfl rfl rfl rfl (HQ.out V)
  simp only [Act.put, List.setIfInBounds_toArray, List.set_cons_zero, List.set_cons_succ]
  refine wpAnyH_take (i := 3) (oi := { dst := some 7, op := Op.nilCheck (Operand.tmp 4), type := 0, pos := "tell.go:120", after := #[{ on := 0, ground := Ground.data }], guard := none }) (v := .pointer (some ⟨g, o, none⟩)) rfl (by kernel_rfl) (by kernel_rfl) (by kernel_rfl) (fun _ _ _ h => h.elim) (Or.inl ⟨by rfl, ?y4⟩) hS0.out ?_
  case y4 =>
    intro V hV
    go_simp
  simp only [Act.put, List.setIfInBounds_toArray, List.set_cons_zero, List.set_cons_succ]
  refine wpAnyH_take (i := 4) (oi := { dst := some 8, op := Op.indexAddr 95 (Operand.tmp 7) (Operand.tmp 6), type := 0, pos := "tell.go:120", after := #[{ on := 3, ground := Ground.data }, { on := 2, ground := Ground.data }], guard := none }) (v := .pointer (some ⟨g, o + q, none⟩)) rfl (by kernel_rfl) (by kernel_rfl) (by kernel_rfl) (fun _ _ _ h => h.elim) (Or.inl ⟨by rfl, ?y5⟩) hS0.out ?_
  case y5 =>
    intro V hV
    have hcmp := q1
    have hcmp2 := q2
    go_simp
  simp only [Act.put, List.setIfInBounds_toArray, List.set_cons_zero, List.set_cons_succ]
  refine wpAnyH_take (i := 6) (oi := { dst := some 10, op := Op.move (Operand.tmp 1), type := 3, pos := "tell.go:120", after := #[], guard := none }) (v := iv (n : Int)) rfl (by kernel_rfl) (by kernel_rfl) (by kernel_rfl) (fun _ _ _ h => h.elim) (Or.inl ⟨by rfl, ?y6⟩) hS0.out ?_
  case y6 =>
    intro V hV
    go_simp
  simp only [Act.put, List.setIfInBounds_toArray, List.set_cons_zero, List.set_cons_succ]
  refine wpAnyH_take (i := 7) (oi := { dst := some 11, op := Op.binOp BinOp.rem 3 (Operand.tmp 10) (Operand.const (Value.int IntKind.i64 64)) 3, type := 3, pos := "tell.go:120", after := #[{ on := 6, ground := Ground.data }], guard := none }) (v := iv (r : Int)) rfl (by kernel_rfl) (by kernel_rfl) (by kernel_rfl) (fun _ _ _ h => h.elim) (Or.inl ⟨by rfl, ?y7⟩) hS0.out ?_
  case y7 =>
    intro V hV
    exact yl_bin V .rem 3 3 _ _ (iv (n : Int)) (iv 64) _ rfl rfl rfl rfl (HM.out V)
  simp only [Act.put, List.setIfInBounds_toArray, List.set_cons_zero, List.set_cons_succ]
  refine wpAnyH_take (i := 8) (oi := { dst := some 12, op := Op.binOp BinOp.shl 93 (Operand.const (Value.int IntKind.u64 1)) (Operand.tmp 11) 3, type := 93, pos := "tell.go:120", after := #[{ on := 7, ground := Ground.data }], guard := none }) (v := .int .u64 (bitI r)) rfl (by kernel_rfl) (by kernel_rfl) (by kernel_rfl) (fun _ _ _ h => h.elim) (Or.inl ⟨by rfl, ?y8⟩) hS0.out ?_
  case y8 =>
    intro V hV
    exact yl_bin V .shl 93 3 _ _ (.int .u64 1) (iv (r : Int)) _ rfl rfl rfl rfl (HS.out V)
  simp only [Act.put, List.setIfInBounds_toArray, List.set_cons_zero, List.set_cons_succ]
  refine wpAnyH_take (i := 10) (oi := { dst := some 14, op := Op.nilCheck (Operand.tmp 4), type := 0, pos := "tell.go:120", after := #[{ on := 0, ground := Ground.data }], guard := none }) (v := .pointer (some ⟨g, o, none⟩)) rfl (by kernel_rfl) (by kernel_rfl) (by kernel_rfl) (fun _ _ _ h => h.elim) (Or.inl ⟨by rfl, ?y9⟩) hS0.out ?_
  case y9 =>
    intro V hV
    go_simp
  simp only [Act.put, List.setIfInBounds_toArray, List.set_cons_zero, List.set_cons_succ]
  refine wpAnyH_ready (rs := [5]) (by kernel_rfl) (by simp) (AllReadyH.cons (i := 5) (o := { dst := some 9, op := Op.load 93 (Operand.tmp 8), type := 93, pos := "tell.go:120", after := #[{ on := 4, ground := Ground.data }], guard := none }) rfl ?_ AllReadyH.nil)
  · intro K1 hK1
    rw [if_pos (by rfl)]
    have hc : V0.cell? ⟨g, o + q, none⟩ = some (.int .u64 s) := hX0.out.cell HC.out
    go_wp2
    clear hc
    refine hK1.out _ _ hS0.out ?_
    clear hK1
    intro _
    try simp only [Act.put, List.setIfInBounds_toArray, List.set_cons_zero, List.set_cons_succ]
    refine wpAnyH_take (i := 9) (oi := { dst := some 13, op := Op.binOp BinOp.or 93 (Operand.tmp 9) (Operand.tmp 12) 93, type := 93, pos := "tell.go:120", after := #[{ on := 5, ground := Ground.data }, { on := 8, ground := Ground.data }], guard := none }) (v := .int .u64 (orB s (bitI r))) rfl (by kernel_rfl) (by kernel_rfl) (by kernel_rfl) (fun _ _ _ h => h.elim) (Or.inl ⟨by rfl, ?y10⟩) hS0.out ?_
    case y10 =>
      intro V hV
      exact yl_bin V .or 93 93 _ _ (.int .u64 s) (.int .u64 (bitI r)) _ rfl rfl rfl rfl (or_run _ _ V)
    simp only [Act.put, List.setIfInBounds_toArray, List.set_cons_zero, List.set_cons_succ]
    refine wpAnyH_take (i := 11) (oi := { dst := some 15, op := Op.indexAddr 95 (Operand.tmp 14) (Operand.tmp 6), type := 0, pos := "tell.go:120", after := #[{ on := 10, ground := Ground.data }, { on := 2, ground := Ground.data }, { on := 0, ground := Ground.phase }, { on := 1, ground := Ground.phase }, { on := 2, ground := Ground.phase }, { on := 3, ground := Ground.phase }, { on := 4, ground := Ground.phase }, { on := 5, ground := Ground.phase }, { on := 6, ground := Ground.phase }, { on := 7, ground := Ground.phase }, { on := 8, ground := Ground.phase }, { on := 9, ground := Ground.phase }], guard := none }) (v := .pointer (some ⟨g, o + q, none⟩)) rfl (by kernel_rfl) (by kernel_rfl) (by kernel_rfl) (fun _ _ _ h => h.elim) (Or.inl ⟨by rfl, ?y11⟩) hS0.out ?_
    case y11 =>
      intro V hV
      have hcmp := q1
      have hcmp2 := q2
      go_simp
    simp only [Act.put, List.setIfInBounds_toArray, List.set_cons_zero, List.set_cons_succ]
    refine wpAnyH_ready (rs := [12]) (by kernel_rfl) (by simp) (AllReadyH.cons (i := 12) (o := { dst := none, op := Op.store 93 (Operand.tmp 15) (Operand.tmp 13), type := 0, pos := "tell.go:120", after := #[{ on := 11, ground := Ground.data }, { on := 9, ground := Ground.data }, { on := 0, ground := Ground.phase }, { on := 1, ground := Ground.phase }, { on := 2, ground := Ground.phase }, { on := 3, ground := Ground.phase }, { on := 4, ground := Ground.phase }, { on := 5, ground := Ground.phase }, { on := 6, ground := Ground.phase }, { on := 7, ground := Ground.phase }, { on := 8, ground := Ground.phase }, { on := 9, ground := Ground.phase }], guard := none }) rfl ?_ AllReadyH.nil)
    · intro K1 hK1
      refine step_stc (by rfl) 93 _ _ rfl (by kernel_rfl) (v := .int .u64 (orB s (bitI r))) (b := g) (i := o + q) rfl rfl rfl rfl (hX0.out.cell HC.out) (hX0.out.free (o + q)) ?_
      obtain ⟨V2, hv2⟩ : ∃ V, V0.setCell ⟨g, o + q, none⟩ (.int .u64 (orB s (bitI r))) = V := ⟨_, rfl⟩
      have hg2 : V0.grownBy V2 (some g) := by rw [← hv2]; exact grown_setCell _ _ _ _
      have hS2 : Hid (Keep (fun k => k = g) A V2) := (hS0.out).trans (Keep.grown (S := fun k => k = g) hg2 rfl) (fun _ h _ => h)
      have hX2 : Hid (Blk V2 g 95 (L.set (o + q) (.int .u64 (orB s (bitI r))))) := by
        show Blk _ _ _ _
        rw [← hv2]
        exact hX0.out.set _ _
      rw [hv2]
      clear hv2 hg2
      refine hK1.out _ _ hS2.out ?_
      clear hK1
      intro _
      try simp only [Act.put, List.setIfInBounds_toArray, List.set_cons_zero, List.set_cons_succ]
      refine wpAnyH_done (by kernel_rfl) ?_ _
      exact hQ V2 hS2.out hX2.out
set_option maxRecDepth 100000 in
set_option maxHeartbeats 4000000 in
theorem jn4 {Q : Exit → Act → World → Prop} {x1 x2 x3 x6 x7 x8 x9 x10 x11 x12 x13 x14 x15 x16 x17 x18 x19 x20 : Value} {ds : List Deferred} {A : World} {g o : Nat} {L : List Value} {q : Nat} {s x : Int}
    (HX : Hid (Blk A g 95 L)) (HC : Hid (L[o + q]? = some (.int .u64 s))) (q1 : (q : Int) < 8) (q2 : q < 8)
    (hQ : ∀ V3, Keep (fun k => k = g) A V3 → Blk V3 g 95 (L.set (o + q) (.int .u64 (orB s x))) → Q .normal { tmps := #[.pointer (some ⟨g, o, none⟩), x1, x2, x3, iv (q : Int), .int .u64 x, x6, x7, x8, x9, x10, .pointer (some ⟨g, o, none⟩), iv (q : Int), .pointer (some ⟨g, o, none⟩), .pointer (some ⟨g, o + q, none⟩), .int .u64 s, .int .u64 x, .int .u64 (orB s x), .pointer (some ⟨g, o, none⟩), .pointer (some ⟨g, o + q, none⟩), x20], defers := ds } V3) :
    (Code.region 4 #[{ dst := some 11, op := Op.move (Operand.tmp 0), type := 123, pos := "tell.go:124", after := #[], guard := none }, { dst := some 12, op := Op.move (Operand.tmp 4), type := 3, pos := "tell.go:124", after := #[], guard := none }, { dst := some 13, op := Op.nilCheck (Operand.tmp 11), type := 0, pos := "tell.go:124", after := #[{ on := 0, ground := Ground.data }], guard := none }, { dst := some 14, op := Op.indexAddr 95 (Operand.tmp 13) (Operand.tmp 12), type := 0, pos := "tell.go:124", after := #[{ on := 2, ground := Ground.data }, { on := 1, ground := Ground.data }], guard := none }, { dst := some 15, op := Op.load 93 (Operand.tmp 14), type := 93, pos := "tell.go:124", after := #[{ on := 3, ground := Ground.data }], guard := none }, { dst := some 16, op := Op.move (Operand.tmp 5), type := 93, pos := "tell.go:124", after := #[], guard := none }, { dst := some 17, op := Op.binOp BinOp.or 93 (Operand.tmp 15) (Operand.tmp 16) 93, type := 93, pos := "tell.go:124", after := #[{ on := 4, ground := Ground.data }, { on := 5, ground := Ground.data }], guard := none }, { dst := some 18, op := Op.nilCheck (Operand.tmp 11), type := 0, pos := "tell.go:124", after := #[{ on := 0, ground := Ground.data }], guard := none }, { dst := some 19, op := Op.indexAddr 95 (Operand.tmp 18) (Operand.tmp 12), type := 0, pos := "tell.go:124", after := #[{ on := 7, ground := Ground.data }, { on := 1, ground := Ground.data }, { on := 0, ground := Ground.phase }, { on := 1, ground := Ground.phase }, { on := 2, ground := Ground.phase }, { on := 3, ground := Ground.phase }, { on := 4, ground := Ground.phase }, { on := 5, ground := Ground.phase }, { on := 6, ground := Ground.phase }], guard := none }, { dst := none, op := Op.store 93 (Operand.tmp 19) (Operand.tmp 17), type := 0, pos := "tell.go:124", after := #[{ on := 8, ground := Ground.data }, { on := 6, ground := Ground.data }, { on := 0, ground := Ground.phase }, { on := 1, ground := Ground.phase }, { on := 2, ground := Ground.phase }, { on := 3, ground := Ground.phase }, { on := 4, ground := Ground.phase }, { on := 5, ground := Ground.phase }, { on := 6, ground := Ground.phase }], guard := none }] true).wp Try.prog Q { tmps := #[.pointer (some ⟨g, o, none⟩), x1, x2, x3, iv (q : Int), .int .u64 x, x6, x7, x8, x9, x10, x11, x12, x13, x14, x15, x16, x17, x18, x19, x20], defers := ds } A := by
  refine Code.wp_mono (Q := fun x a' w' => match x with | .normal => Q .normal a' w' | _ => False) (by intro x a' w' h; cases x <;> first | exact h | exact h.elim) ?_
  refine wp_region_held (S := fun V => Keep (fun k => k = g) A V) (by kernel_rfl) ?_
  have hS0 : Hid (Keep (fun k => k = g) A A.drew) := (Keep.refl _ A).drew
  change wpAnyH Try.prog .any _ _ (fun V => Keep (fun k => k = g) A V) 10 (Array.replicate 10 false) _ A.drew
  obtain ⟨V0, hV0⟩ : ∃ V0, A.drew = V0 := ⟨_, rfl⟩
  rw [hV0]
  rw [hV0] at hS0
  have hX0 : Hid (Blk V0 g 95 L) := by
    show Blk V0 g 95 L
    rw [← hV0]
    exact HX.out
  clear hV0
  refine wpAnyH_take (i := 0) (oi := { dst := some 11, op := Op.move (Operand.tmp 0), type := 123, pos := "tell.go:124", after := #[], guard := none }) (v := .pointer (some ⟨g, o, none⟩)) rfl (by kernel_rfl) (by kernel_rfl) (by kernel_rfl) (fun _ _ _ h => h.elim) (Or.inl ⟨by rfl, ?y1⟩) hS0.out ?_
  case y1 =>
    intro V hV
    go_simp
  simp only [Act.put, List.setIfInBounds_toArray, List.set_cons_zero, List.set_cons_succ]
  refine wpAnyH_take (i := 1) (oi := { dst := some 12, op := Op.move (Operand.tmp 4), type := 3, pos := "tell.go:124", after := #[], guard := none }) (v := iv (q : Int)) rfl (by kernel_rfl) (by kernel_rfl) (by kernel_rfl) (fun _ _ _ h => h.elim) (Or.inl ⟨by rfl, ?y2⟩) hS0.out ?_
  case y2 =>
    intro V hV
    go_simp
  simp only [Act.put, List.setIfInBounds_toArray, List.set_cons_zero, List.set_cons_succ]
  refine wpAnyH_take (i := 2) (oi := { dst := some 13, op := Op.nilCheck (Operand.tmp 11), type := 0, pos := "tell.go:124", after := #[{ on := 0, ground := Ground.data }], guard := none }) (v := .pointer (some ⟨g, o, none⟩)) rfl (by kernel_rfl) (by kernel_rfl) (by kernel_rfl) (fun _ _ _ h => h.elim) (Or.inl ⟨by rfl, ?y3⟩) hS0.out ?_
  case y3 =>
    intro V hV
    go_simp
  simp only [Act.put, List.setIfInBounds_toArray, List.set_cons_zero, List.set_cons_succ]
  refine wpAnyH_take (i := 3) (oi := { dst := some 14, op := Op.indexAddr 95 (Operand.tmp 13) (Operand.tmp 12), type := 0, pos := "tell.go:124", after := #[{ on := 2, ground := Ground.data }, { on := 1, ground := Ground.data }], guard := none }) (v := .pointer (some ⟨g, o + q, none⟩)) rfl (by kernel_rfl) (by kernel_rfl) (by kernel_rfl) (fun _ _ _ h => h.elim) (Or.inl ⟨by rfl, ?y4⟩) hS0.out ?_
  case y4 =>
    intro V hV
    have hcmp := q1
    have hcmp2 := q2
    go_simp
  simp only [Act.put, List.setIfInBounds_toArray, List.set_cons_zero, List.set_cons_succ]
  refine wpAnyH_take (i := 5) (oi := { dst := some 16, op := Op.move (Operand.tmp 5), type := 93, pos := "tell.go:124", after := #[], guard := none }) (v := .int .u64 x) rfl (by kernel_rfl) (by kernel_rfl) (by kernel_rfl) (fun _ _ _ h => h.elim) (Or.inl ⟨by rfl, ?y5⟩) hS0.out ?_
  case y5 =>
    intro V hV
    go_simp
  simp only [Act.put, List.setIfInBounds_toArray, List.set_cons_zero, List.set_cons_succ]
  refine wpAnyH_take (i := 7) (oi := { dst := some 18, op := Op.nilCheck (Operand.tmp 11), type := 0, pos := "tell.go:124", after := #[{ on := 0, ground := Ground.data }], guard := none }) (v := .pointer (some ⟨g, o, none⟩)) rfl (by kernel_rfl) (by kernel_rfl) (by kernel_rfl) (fun _ _ _ h => h.elim) (Or.inl ⟨by rfl, ?y6⟩) hS0.out ?_
  case y6 =>
    intro V hV
    go_simp
  simp only [Act.put, List.setIfInBounds_toArray, List.set_cons_zero, List.set_cons_succ]
  refine wpAnyH_ready (rs := [4]) (by kernel_rfl) (by simp) (AllReadyH.cons (i := 4) (o := { dst := some 15, op := Op.load 93 (Operand.tmp 14), type := 93, pos := "tell.go:124", after := #[{ on := 3, ground := Ground.data }], guard := none }) rfl ?_ AllReadyH.nil)
  · intro K1 hK1
    rw [if_pos (by rfl)]
    have hc : V0.cell? ⟨g, o + q, none⟩ = some (.int .u64 s) := hX0.out.cell HC.out
    go_wp2
    clear hc
    refine hK1.out _ _ hS0.out ?_
    clear hK1
    intro _
    try simp only [Act.put, List.setIfInBounds_toArray, List.set_cons_zero, List.set_cons_succ]
    refine wpAnyH_take (i := 6) (oi := { dst := some 17, op := Op.binOp BinOp.or 93 (Operand.tmp 15) (Operand.tmp 16) 93, type := 93, pos := "tell.go:124", after := #[{ on := 4, ground := Ground.data }, { on := 5, ground := Ground.data }], guard := none }) (v := .int .u64 (orB s x)) rfl (by kernel_rfl) (by kernel_rfl) (by kernel_rfl) (fun _ _ _ h => h.elim) (Or.inl ⟨by rfl, ?y7⟩) hS0.out ?_
    case y7 =>
      intro V hV
      exact yl_bin V .or 93 93 _ _ (.int .u64 s) (.int .u64 x) _ rfl rfl rfl rfl (or_run _ _ V)
    simp only [Act.put, List.setIfInBounds_toArray, List.set_cons_zero, List.set_cons_succ]
    refine wpAnyH_take (i := 8) (oi := { dst := some 19, op := Op.indexAddr 95 (Operand.tmp 18) (Operand.tmp 12), type := 0, pos := "tell.go:124", after := #[{ on := 7, ground := Ground.data }, { on := 1, ground := Ground.data }, { on := 0, ground := Ground.phase }, { on := 1, ground := Ground.phase }, { on := 2, ground := Ground.phase }, { on := 3, ground := Ground.phase }, { on := 4, ground := Ground.phase }, { on := 5, ground := Ground.phase }, { on := 6, ground := Ground.phase }], guard := none }) (v := .pointer (some ⟨g, o + q, none⟩)) rfl (by kernel_rfl) (by kernel_rfl) (by kernel_rfl) (fun _ _ _ h => h.elim) (Or.inl ⟨by rfl, ?y8⟩) hS0.out ?_
    case y8 =>
      intro V hV
      have hcmp := q1
      have hcmp2 := q2
      go_simp
    simp only [Act.put, List.setIfInBounds_toArray, List.set_cons_zero, List.set_cons_succ]
    refine wpAnyH_ready (rs := [9]) (by kernel_rfl) (by simp) (AllReadyH.cons (i := 9) (o := { dst := none, op := Op.store 93 (Operand.tmp 19) (Operand.tmp 17), type := 0, pos := "tell.go:124", after := #[{ on := 8, ground := Ground.data }, { on := 6, ground := Ground.data }, { on := 0, ground := Ground.phase }, { on := 1, ground := Ground.phase }, { on := 2, ground := Ground.phase }, { on := 3, ground := Ground.phase }, { on := 4, ground := Ground.phase }, { on := 5, ground := Ground.phase }, { on := 6, ground := Ground.phase }], guard := none }) rfl ?_ AllReadyH.nil)
    · intro K1 hK1
      refine step_stc (by rfl) 93 _ _ rfl (by kernel_rfl) (v := .int .u64 (orB s x)) (b := g) (i := o + q) rfl rfl rfl rfl (hX0.out.cell HC.out) (hX0.out.free (o + q)) ?_
      obtain ⟨V2, hv2⟩ : ∃ V, V0.setCell ⟨g, o + q, none⟩ (.int .u64 (orB s x)) = V := ⟨_, rfl⟩
      have hg2 : V0.grownBy V2 (some g) := by rw [← hv2]; exact grown_setCell _ _ _ _
      have hS2 : Hid (Keep (fun k => k = g) A V2) := (hS0.out).trans (Keep.grown (S := fun k => k = g) hg2 rfl) (fun _ h _ => h)
      have hX2 : Hid (Blk V2 g 95 (L.set (o + q) (.int .u64 (orB s x)))) := by
        show Blk _ _ _ _
        rw [← hv2]
        exact hX0.out.set _ _
      rw [hv2]
      clear hv2 hg2
      refine hK1.out _ _ hS2.out ?_
      clear hK1
      intro _
      try simp only [Act.put, List.setIfInBounds_toArray, List.set_cons_zero, List.set_cons_succ]
      refine wpAnyH_done (by kernel_rfl) ?_ _
      exact hQ V2 hS2.out hX2.out
theorem idx95 {X : List Int} (hX : X.length = 8) {i : Nat} (hi : i < 8) (W : World) : (Instr.index 95 (.agg (wsI X).toArray) (iv (i : Int))).run Try.prog W = .ok (.int .u64 (X.getD i 0)) W := by
  have h1 := wsI_at (getD_at (l := X) (i := i) (by omega))
  have h2 : (sizeOf 93).run Try.prog W = .ok 1 W := by kernel_rfl
  have h3 : (part 93 (wsI X).toArray i).run Try.prog W = .ok (.int .u64 (X.getD i 0)) W := part3 93 _ Try.underlying93 rfl _ _ _ (by simpa using h1) W
  have h4 : (i : Int) < 8 := by omega
  have h5 : ¬ 8 ≤ i := by omega
  simp [Instr.index, run_underlying Try.underlying95, asIntOf, h2, h3, h4, h5, Result.andThen, Nat.mul_one]
theorem put_is (w : World) (g o n : Nat) (l : List Int) (hb : Blk w g 95 (wsI l)) (hl : o + 8 ≤ l.length) (hn : n < 512) : Calls Try.prog 51 #[.pointer (some ⟨g, o, none⟩), iv (n : Int)] w fun e w' => (∃ v, e = .returned v) ∧ Keep (fun k => k = g) w w' ∧ Blk w' g 95 (wsI (putW o n l)) := by
  have hq : n / 64 < 8 := by omega
  have q1 : ((n / 64 : Nat) : Int) < 8 := by omega
  have HQ : Hid (∀ V, (binOp .quo 3 (iv (n : Int)) (iv 64)).run Try.prog V = .ok (iv ((n / 64 : Nat) : Int)) V) := fun V => by
    have e : ((n : Int) / 64) = ((n / 64 : Nat) : Int) := by omega
    have e2 : IntKind.i64.wrap ((n : Int) / 64) = (n : Int) / 64 := by rw [IntKind.wrap_i64]; omega
    simp [go_sem, Op.intDiv, ← e, e2]
  have HM : Hid (∀ V, (binOp .rem 3 (iv (n : Int)) (iv 64)).run Try.prog V = .ok (iv ((n % 64 : Nat) : Int)) V) := fun V => by
    have e : ((n : Int) % 64) = ((n % 64 : Nat) : Int) := by omega
    have e2 : (n : Int).tmod 64 = (n : Int) % 64 := Int.tmod_eq_emod_of_nonneg (by omega)
    simp [go_sem, Op.intDiv, ← e, e2]
  have HS : Hid (∀ V, (binOp .shl 93 (.int .u64 1) (iv ((n % 64 : Nat) : Int))).run Try.prog V = .ok (.int .u64 (bitI (n % 64))) V) := fun V => by
    have e1 : (0 : Int) ≤ ((n % 64 : Nat) : Int) := by omega
    have e2 : ((n % 64 : Nat) : Int) ≤ 64 := by omega
    rw [binOp_shl, shift_shl .u64 .i64 1 _ e1 e2, Int.toNat_natCast]
    rfl
  have HC : Hid ((wsI l)[o + n / 64]? = some (.int .u64 (l.getD (o + n / 64) 0))) := wsI_at (getD_at (by omega))
  have HB : Hid (Blk w g 95 (wsI l)) := hb
  clear hb hl hn
  obtain ⟨q, hqe⟩ : ∃ q, n / 64 = q := ⟨_, rfl⟩
  obtain ⟨r, hre⟩ : ∃ r, n % 64 = r := ⟨_, rfl⟩
  have HP : Hid (putW o n l = l.set (o + q) (orB (l.getD (o + q) 0) (bitI r))) := by
    show putW o n l = _
    unfold putW
    rw [hqe, hre]
  rw [hqe] at q1 HQ HC hq
  rw [hre] at HM HS
  clear hqe hre
  go_enter Try.func51, Try.ntmps51
  refine pt0 HB HC q1 hq HQ HM HS ?_
  intro V hk hx
  have HE : Hid (Keep (fun k => k = g) w V ∧ Blk V g 95 (wsI (putW o n l))) := ⟨hk, by rw [HP.out, ← wsI_set]; exact hx⟩
  clear hk hx
  go_end0
  exact ⟨⟨_, rfl⟩, HE.out⟩
theorem info95 {X : List Int} (hX : X.length = 8) : (Try.prog.info? 95).map (·.size) = some (wsI X).length := by
  unfold wsI
  rw [List.length_map, hX]
  kernel_rfl
theorem run_box95 (X : List Int) (hX : X.length = 8) (W : World) : (Instr.box 95 (.agg (wsI X).toArray)).run Try.prog W = .ok (.pointer (some ⟨W.heap.size, 0, none⟩)) (W.alloc (.cells (wsI X).toArray 95)) := by
  obtain ⟨i0, hi0, hs0⟩ := Option.map_eq_some_iff.1 (info95 hX)
  exact run_box 95 (.agg (wsI X).toArray) i0 hi0 (by rw [hs0]; simp [Value.cells]) W
theorem join_is (w : World) (g o : Nat) (l X : List Int) (hb : Blk w g 95 (wsI l)) (hl : o + 8 ≤ l.length) (hX : X.length = 8) : Calls Try.prog 50 #[.pointer (some ⟨g, o, none⟩), .agg (wsI X).toArray] w fun e w' => (∃ v, e = .returned v) ∧ Keep (fun k => k = g) w w' ∧ Blk w' g 95 (wsI (orW o X 8 l)) := by
  have hbx := run_box95 X hX w
  have HT : Hid (Keep (fun k => k = g) w (w.alloc (.cells (wsI X).toArray 95)) ∧ Blk (w.alloc (.cells (wsI X).toArray 95)) g 95 (wsI l) ∧ Blk (w.alloc (.cells (wsI X).toArray 95)) w.heap.size 95 (wsI X)) := ⟨Keep.below (below_al _ _), hb.below (below_al _ _) hb.lt, by simpa using Blk.new w (wsI X).toArray 95⟩
  have HB : Hid (o + 8 ≤ l.length ∧ X.length = 8) := ⟨hl, hX⟩
  have HI : Hid (∀ (i : Nat), i < 8 → ∀ W, (Instr.index 95 (.agg (wsI X).toArray) (iv (i : Int))).run Try.prog W = .ok (.int .u64 (X.getD i 0)) W) := fun i hi W => idx95 hX hi W
  clear hb hl hX
  go_enter Try.func50, Try.ntmps50
  go_wp2_with (first
    | (with_reducible change wpList _ _ _ ({ dst := some 6, op := _, type := _, pos := _, after := _, guard := _ } :: _) _ _
       refine wpList_load_want rfl 95 (.tmp 3) rfl w.heap.size 0 rfl (wsI X) _ HT.out.2.2.range0 Try.underlying95 rfl (info95 HB.out.2) ?_)
    | fail)
  obtain ⟨W, hW⟩ : ∃ W, w.alloc (.cells (wsI X).toArray 95) = W := ⟨_, rfl⟩
  rw [hW] at HT
  rw [hW]
  clear hbx hW
  obtain ⟨XV, hXV⟩ : ∃ x, wsI X = x := ⟨_, rfl⟩
  rw [hXV] at HI
  rw [hXV]
  clear hXV
  go_loopw [7] (fun u wr => ∃ i : Nat, u = iv (i : Int) ∧ Hid (i ≤ 8 ∧ Keep (fun k => k = g) w wr ∧ Blk wr g 95 (wsI (orW o X i l)))) (fun u _ => 8 - (intOf u).toNat)
  case atStart => exact ⟨0, rfl, by omega, HT.out.1, HT.out.2.1⟩
  case round =>
    obtain ⟨Y, hY⟩ : ∃ Y, Y = wr := ⟨_, rfl⟩
    subst hY
    obtain ⟨i, rfl, HR⟩ := hrel
    clear HT
    by_cases hi : i < 8
    · have q1 : (i : Int) < 8 := by omega
      have hix := HI.out i hi
      have HC : Hid ((wsI (orW o X i l))[o + i]? = some (.int .u64 ((orW o X i l).getD (o + i) 0))) := wsI_at (getD_at (by rw [orW_len]; have := HB.out.1; omega))
      have HJ : Hid (i < 8) := hi
      clear hi
      go_wp2_with fail
      refine jn4 (x := X.getD i 0) HR.out.2.2 HC q1 HJ.out ?_
      intro V hk hx
      have H2 : Hid (i + 1 ≤ 8 ∧ Keep (fun k => k = g) w V ∧ Blk V g 95 (wsI (orW o X (i + 1) l))) := by
        refine ⟨HJ.out, HR.out.2.1.trans hk (fun _ h _ => h), ?_⟩
        rw [wsI_set] at hx
        exact hx
      clear hk hx hix
      go_wp2
      refine ⟨⟨i + 1, by simp, H2.out⟩, ?_⟩
      have := HJ.out; simp [intOf]; omega
    · have q1 : ¬ (i : Int) < 8 := by omega
      obtain rfl : i = 8 := by have := HR.out.1; omega
      have H2 := HR.out.2
      clear HR
      have H3 := hid_of H2
      clear H2 hi
      go_wp2
      go_end0
      exact ⟨⟨_, rfl⟩, H3.out⟩
theorem both_is (w : World) (S X : List Int) (hS : S.length = 8) (hX : X.length = 8) (r : Int) (hr : bothW S X 8 = r) : Calls Try.prog 53 #[.agg (wsI S).toArray, .agg (wsI X).toArray] w fun e w' => e = .returned (iv r) ∧ Below w.heap.size w w' := by
  have HT : Hid (Below w.heap.size w ((w.alloc (.cells (wsI S).toArray 95)).alloc (.cells (wsI X).toArray 95)) ∧ Blk ((w.alloc (.cells (wsI S).toArray 95)).alloc (.cells (wsI X).toArray 95)) w.heap.size 95 (wsI S) ∧ Blk ((w.alloc (.cells (wsI S).toArray 95)).alloc (.cells (wsI X).toArray 95)) (w.heap.size + 1) 95 (wsI X)) := by
    have hk1 : Blk (w.alloc (.cells (wsI S).toArray 95)) w.heap.size 95 (wsI S) := by simpa using Blk.new w (wsI S).toArray 95
    refine ⟨below_tr (below_al _ _) (below_al _ _), hk1.below (below_al _ _) hk1.lt, ?_⟩
    have h := Blk.new (w.alloc (.cells (wsI S).toArray 95)) (wsI X).toArray 95
    rw [show (w.alloc (.cells (wsI S).toArray 95)).heap.size = w.heap.size + 1 by simp] at h
    simpa using h
  have HB : Hid (S.length = 8 ∧ X.length = 8) := ⟨hS, hX⟩
  have HI : Hid (∀ (i : Nat), i < 8 → ∀ W, (Instr.index 95 (.agg (wsI X).toArray) (iv (i : Int))).run Try.prog W = .ok (.int .u64 (X.getD i 0)) W) := fun i hi W => idx95 hX hi W
  have HR : Hid (bothW S X 8 = r) := hr
  have hbs := run_box95 S hS w
  have hbx := run_box95 X hX (w.alloc (.cells (wsI S).toArray 95))
  clear hS hX hr
  go_enter Try.func53, Try.ntmps53
  go_wp2_with (first
    | (with_reducible change wpList _ _ _ ({ dst := some 8, op := _, type := _, pos := _, after := _, guard := _ } :: _) _ _
       refine wpList_load_want rfl 95 (.tmp 3) rfl (w.heap.size + 1) 0 rfl (wsI X) _ HT.out.2.2.range0 Try.underlying95 rfl (info95 HB.out.2) ?_)
    | fail)
  clear hbs hbx
  obtain ⟨W2, hW2⟩ : ∃ W, (w.alloc (.cells (wsI S).toArray 95)).alloc (.cells (wsI X).toArray 95) = W := ⟨_, rfl⟩
  obtain ⟨d2, hd2⟩ : ∃ d, w.heap.size = d := ⟨_, rfl⟩
  rw [hW2] at HT
  rw [hW2, hd2]
  have HT : Hid (Below w.heap.size w W2 ∧ Blk W2 d2 95 (wsI S) ∧ Blk W2 (d2 + 1) 95 (wsI X)) := by rw [← hd2]; exact HT.out
  clear hW2 hd2
  obtain ⟨XV, hXV⟩ : ∃ x, wsI X = x := ⟨_, rfl⟩
  rw [hXV] at HI
  rw [hXV]
  clear hXV
  go_loopw [9, 5] (fun u v wr => ∃ i : Nat, u = iv (i : Int) ∧ v = iv (bothW S X i) ∧ Hid (i ≤ 8) ∧ W2 = wr) (fun u _ _ => 8 - (intOf u).toNat)
  case atStart => exact ⟨0, rfl, rfl, by show 0 ≤ 8; omega, rfl⟩
  case round =>
    obtain ⟨i, rfl, rfl, HI2, rfl⟩ := hrel
    by_cases hi : i < 8
    · have q1 : (i : Int) < 8 := by omega
      have hix := HI.out i hi
      have cs : W2.cell? ⟨d2, i, none⟩ = some (.int .u64 (S.getD i 0)) := HT.out.2.1.cell (wsI_at (getD_at (by rw [HB.out.1]; exact hi)))
      have HJ : Hid (i < 8) := hi
      clear hi
      go_wp2_with fail
      refine (ones_is _ _ _ rfl).mono ?_
      rintro e V ⟨rfl, rfl⟩
      go_wp2
      refine ⟨⟨i + 1, by simp, ?_, HJ.out, trivial⟩, ?_⟩
      · rfl
      · have := HJ.out; simp [intOf]; omega
    · have q1 : ¬ (i : Int) < 8 := by omega
      obtain rfl : i = 8 := by have := HI2.out; omega
      clear hi
      go_wp2
      go_ret
      exact ⟨by rw [HR.out]; rfl, HT.out.1⟩
end Go.Proofs.Ytjcihaohpbmogaa.Oct
