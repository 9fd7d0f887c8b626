/-
  Layer 11 (lines): the comparison that the sort is handed.
  Layer 11 (lines): slices.SortFunc as this program bears it: the body of which the library's contract was proved.
  Layer 11 (lines): the sort.
-/
import Derived.Test.YtjcihaohpbmogaaQpBE
import Derived.Lib.Bytealg
import Derived.Sort.Grow
import Derived.Shelf.SlSortCmp.WholeK
import Derived.Test.YtjcihaohpbmogaaRows
/- Layer 11 (lines): the comparison that the sort is handed. -/
namespace Go.Proofs.Ytjcihaohpbmogaa.Oct
open Go.RowKit Go.Shelf Go.Lib Go.Sort
set_option maxRecDepth 100000
set_option linter.unusedSimpArgs false
set_option linter.unusedVariables false
set_option linter.unusedSectionVars false

theorem run_loadBytes (W : World) (g : Nat) : ∀ (l : List UInt8) (o : Nat) (acc : ByteArray), W.rangeAt g o (U l) → (Extern.Bytes.loadBytes ⟨g, o, none⟩ l.length acc).run Try.prog W = .ok ⟨(acc.data.toList ++ l).toArray⟩ W
  | [], o, acc, _ => by simp [Extern.Bytes.loadBytes]
  | c :: l, o, acc, h => by
    have h0 := h 0 (.int .u8 (c.toNat : Int)) rfl
    have ih := run_loadBytes W g l (o + 1) (acc.push c) (by
      intro j v hj
      have := h (j + 1) v (by simpa [U] using hj)
      rw [show o + (j + 1) = o + 1 + j by omega] at this
      exact this)
    have hl : (load ⟨g, o, none⟩).run Try.prog W = .ok (.int .u8 (c.toNat : Int)) W := by
      have := h0
      simp only [Nat.add_zero] at this
      go_simp
    simp only [List.length_cons, Extern.Bytes.loadBytes, Sem.run_bind, hl, Result.andThen_ok]
    have hc : (c.toNat : Int).toNat.toUInt8 = c := by simp
    rw [hc]
    rw [show (⟨g, o, none⟩ : Addr).add 1 = ⟨g, o + 1, none⟩ from rfl, ih]
    simp
theorem run_compare (W : World) (g o g2 o2 c c2 : Nat) (x y : List UInt8) (hx : W.rangeAt g o (U x)) (hy : W.rangeAt g2 o2 (U y)) :
    (Extern.BytealgCompare.compare #[.slice (some ⟨g, o, none⟩) x.length c, .slice (some ⟨g2, o2, none⟩) y.length c2]).run Try.prog W = .ok (.int .i64 (compareBytes x y)) W := by
  have h1 := run_loadBytes W g x o .empty hx
  have h2 := run_loadBytes W g2 y o2 .empty hy
  show (do pure (goInt (Extern.BytealgCompare.cmp (← Extern.Bytes.bytesOf (.slice (some ⟨g, o, none⟩) x.length c)) (← Extern.Bytes.bytesOf (.slice (some ⟨g2, o2, none⟩) y.length c2)))) : Sem Value).run Try.prog W = _
  simp only [Extern.Bytes.bytesOf, Sem.run_bind, h1, h2, Result.andThen_ok, cmp_eq]
  simp [goInt]

theorem cmp84 (w : World) (g o g2 o2 c c2 : Nat) (x y : List UInt8) (hx : w.rangeAt g o (U x)) (hy : w.rangeAt g2 o2 (U y)) (hxl : x.length = 32) (hyl : y.length = 32) :
    Calls Try.prog 84 #[.slice (some ⟨g, o, none⟩) 32 c, .slice (some ⟨g2, o2, none⟩) 32 c2] w fun e w' => e = .returned (.int .i64 (compareBytes x y)) ∧ w = w' := by
  have HR := run_compare w g o g2 o2 c c2 x y hx hy
  rw [hxl, hyl] at HR
  have H : Hid ((Extern.BytealgCompare.compare #[.slice (some ⟨g, o, none⟩) 32 c, .slice (some ⟨g2, o2, none⟩) 32 c2]).run Try.prog w = .ok (.int .i64 (compareBytes x y)) w) := HR
  clear HR hx hy
  generalize compareBytes x y = r at *
  go_enter Try.func84, Try.ntmps84
  go_wp2
  rw [run_callFunc_extern Try.func90 (by kernel_rfl) (by kernel_rfl) (by kernel_rfl) (e := Extern.BytealgCompare.compare) (by kernel_rfl), H.out]
  simp only [Result.andThen]
  rw [Oper.upon_value]
  go_wp2
  go_ret
  exact ⟨rfl, rfl⟩
theorem u8_tri (a b : UInt8) : a < b ∨ a = b ∨ b < a := by
  rw [UInt8.lt_iff_toNat_lt, UInt8.lt_iff_toNat_lt, ← UInt8.toNat_inj]; omega
theorem u8_not {a b : UInt8} (h : a < b) : ¬ b < a := by rw [UInt8.lt_iff_toNat_lt] at *; omega
theorem u8_irr (a : UInt8) : ¬ a < a := by rw [UInt8.lt_iff_toNat_lt]; omega
theorem u8_tr {a b c : UInt8} (h : a < b) (k : b < c) : a < c := by rw [UInt8.lt_iff_toNat_lt] at *; omega
theorem cb_self : ∀ a : Hs, compareBytes a a = 0
  | [] => rfl
  | c :: a => by unfold compareBytes; rw [if_neg (u8_irr c), if_neg (u8_irr c)]; exact cb_self a
theorem cb_swap : ∀ a b : Hs, compareBytes b a = - compareBytes a b
  | [], [] => rfl
  | [], _ :: _ => rfl
  | _ :: _, [] => rfl
  | x :: a, y :: b => by
    unfold compareBytes
    rcases u8_tri x y with h | rfl | h
    · rw [if_neg (u8_not h), if_pos h, if_pos h]; rfl
    · simp only [u8_irr x, if_false]; exact cb_swap a b
    · rw [if_pos h, if_neg (u8_not h), if_pos h]
theorem cb_zero : ∀ a b : Hs, compareBytes a b = 0 → a = b
  | [], [], _ => rfl
  | [], _ :: _, h => by simp [compareBytes] at h
  | _ :: _, [], h => by simp [compareBytes] at h
  | x :: a, y :: b, h => by
    unfold compareBytes at h
    rcases u8_tri x y with h1 | rfl | h1
    · rw [if_pos h1] at h; omega
    · rw [if_neg (u8_irr x), if_neg (u8_irr x)] at h; rw [cb_zero a b h]
    · rw [if_neg (u8_not h1), if_pos h1] at h; omega
theorem cb_trans : ∀ a b c : Hs, compareBytes a b < 0 → compareBytes b c < 0 → compareBytes a c < 0
  | [], [], _, h, _ => by simp [compareBytes] at h
  | _ :: _, [], _, h, _ => by simp [compareBytes] at h
  | [], _ :: _, [], _, h => by simp [compareBytes] at h
  | [], _ :: _, _ :: _, _, _ => by simp [compareBytes]
  | _ :: _, _ :: _, [], _, h => by simp [compareBytes] at h
  | x :: a, y :: b, z :: c, h, k => by
    unfold compareBytes at h k ⊢
    rcases u8_tri x y with h1 | rfl | h1
    · rcases u8_tri y z with k1 | rfl | k1
      · rw [if_pos (u8_tr h1 k1)]; omega
      · rw [if_pos h1]; omega
      · rw [if_neg (u8_not k1), if_pos k1] at k; omega
    · rcases u8_tri x z with k1 | rfl | k1
      · rw [if_pos k1]; omega
      · rw [if_neg (u8_irr x), if_neg (u8_irr x)] at h k ⊢
        exact cb_trans a b c h k
      · rw [if_neg (u8_not k1), if_pos k1] at k; omega
    · rw [if_neg (u8_not h1), if_pos h1] at h; omega
/-- one hash stands ahead of another -/
def LtH (a b : Hs) : Prop := compareBytes a b < 0
instance (a b : Hs) : Decidable (LtH a b) := inferInstanceAs (Decidable (compareBytes a b < 0))
theorem LtH.irr (a : Hs) : ¬ LtH a a := by unfold LtH; rw [cb_self]; omega
theorem LtH.tr {a b c : Hs} (h : LtH a b) (k : LtH b c) : LtH a c := cb_trans a b c h k
theorem LtH.tri (a b : Hs) : LtH a b ∨ a = b ∨ LtH b a := by
  unfold LtH
  have h := cb_swap a b
  by_cases h0 : compareBytes a b = 0
  · exact .inr (.inl (cb_zero a b h0))
  · omega
theorem LtH.asymm {a b : Hs} (h : LtH a b) : ¬ LtH b a := fun k => LtH.irr a (h.tr k)

/-- cmp.Compare of two numbers -/
def cmpI (x y : Int) : Int := if x < y then -1 else if y < x then 1 else 0
theorem isNaN_is (w : World) (x : Int) : Calls Try.prog 91 #[iv x] w fun e w' => e = .returned (.bool false) ∧ w = w' := by
  have hx : (x != x) = false := by simp
  go_enter Try.func91, Try.ntmps91
  go_wp2
  go_ret
  exact ⟨rfl, rfl⟩
theorem cmp85 (w : World) (x y : Int) : Calls Try.prog 85 #[iv x, iv y] w fun e w' => e = .returned (iv (cmpI x y)) ∧ w = w' := by
  obtain ⟨r, hr⟩ : ∃ r, cmpI x y = r := ⟨_, rfl⟩
  rw [hr]
  unfold cmpI at hr
  by_cases h1 : x < y
  · rw [if_pos h1] at hr
    subst hr
    go_enter Try.func85, Try.ntmps85
    go_wp2_with (first | (go_at_call 91; refine (isNaN_is _ _).mono ?_; rintro e w2 ⟨rfl, rfl⟩) | fail)
    go_ret
    exact ⟨rfl, rfl⟩
  · rw [if_neg h1] at hr
    by_cases h2 : y < x
    · rw [if_pos h2] at hr
      subst hr
      go_enter Try.func85, Try.ntmps85
      go_wp2_with (first | (go_at_call 91; refine (isNaN_is _ _).mono ?_; rintro e w2 ⟨rfl, rfl⟩) | fail)
      go_ret
      exact ⟨rfl, rfl⟩
    · rw [if_neg h2] at hr
      subst hr
      go_enter Try.func85, Try.ntmps85
      go_wp2_with (first | (go_at_call 91; refine (isNaN_is _ _).mono ?_; rintro e w2 ⟨rfl, rfl⟩) | fail)
      go_ret
      exact ⟨rfl, rfl⟩
def orI (x y : Int) : Int := if x ≠ 0 then x else y
theorem or83 (w : World) (g : Nat) (x y : Int) (h0 : w.cell? ⟨g, 0, none⟩ = some (iv x)) (h1 : w.cell? ⟨g, 1, none⟩ = some (iv y)) : Calls Try.prog 83 #[.slice (some ⟨g, 0, none⟩) 2 2] w fun e w' => e = .returned (iv (orI x y)) ∧ w = w' := by
  obtain ⟨r, hr⟩ : ∃ r, orI x y = r := ⟨_, rfl⟩
  rw [hr]
  have HR : Hid (orI x y = r) := hr
  clear hr
  go_enter Try.func83, Try.ntmps83
  go_wp2
  go_loopw [8] (fun u wr => wr = w ∧ (u = iv 0 ∨ (u = iv 1 ∧ Hid (x = 0)) ∨ (u = iv 2 ∧ Hid (x = 0 ∧ y = 0)))) (fun u _ => 2 - (intOf u).toNat)
  case atStart => exact ⟨rfl, .inl rfl⟩
  case round =>
    obtain ⟨rfl, hrel⟩ := hrel
    rcases hrel with rfl | ⟨rfl, HX⟩ | ⟨rfl, HX⟩
    · by_cases hx : x = 0
      · have q1 : (x != 0) = false := by simp [hx]
        have HX : Hid (x = 0) := hx
        clear hx
        go_wp2
        exact ⟨⟨trivial, .inr (.inl ⟨rfl, HX⟩)⟩, by simp [intOf]⟩
      · have q1 : (x != 0) = true := by simp [hx]
        have HX : Hid (r = x) := by show r = x; rw [← HR.out]; unfold orI; rw [if_pos hx]
        clear hx
        go_wp2
        go_ret
        rw [HX.out]
        exact ⟨rfl, rfl⟩
    · by_cases hy : y = 0
      · have q1 : (y != 0) = false := by simp [hy]
        have HY : Hid (y = 0) := hy
        clear hy
        go_wp2
        exact ⟨⟨trivial, .inr (.inr ⟨rfl, HX.out, HY.out⟩)⟩, by simp [intOf]⟩
      · have q1 : (y != 0) = true := by simp [hy]
        have HY : Hid (r = y) := by show r = y; rw [← HR.out]; unfold orI; rw [if_neg (by simpa using HX.out)]
        clear hy
        go_wp2
        go_ret
        rw [HY.out]
        exact ⟨rfl, rfl⟩
    · have HY : Hid (r = 0) := by show r = 0; rw [← HR.out]; unfold orI; rw [if_neg (by simpa using HX.out.1), HX.out.2]
      go_wp2
      go_ret
      rw [HY.out]
      exact ⟨rfl, rfl⟩
/-- vertices in their order -/
def cfV (a b : Vx) : Int := orI (compareBytes a.h b.h) (cmpI a.n b.n)
def EqS (D : World) (I : Obj) (V : World) : Prop := V = D ∨ V = D.alloc I
theorem eqS_cell {D V : World} {I : Obj} (h : EqS D I V) {b i : Nat} {v : Value} (hb : b < D.heap.size) (hc : D.cell? ⟨b, i, none⟩ = some v) : V.cell? ⟨b, i, none⟩ = some v := by
  rcases h with rfl | rfl
  · exact hc
  · exact (cell_same (Below.heap_alloc D I b hb)).trans hc
theorem step_bs2 {ops : Array Oper} {op : Oper} {a : Act} {w : World} {K : Act → World → Prop} {Q : Exit → Act → World → Prop} {E : Prop} (hw : Region.wanted op (yielded ops a.tmps) = true) (t n : Nat) (x y : Operand) (hop : op.op = .buildSlice t n #[(0, x), (1, y)]) (u v : Value) (hx : a.eval x = u) (hy : a.eval y = v) (r : Value) (W' : World)
    (hr : (Instr.buildSlice t n #[(0, u), (1, v)]).run Try.prog w = .ok r W') (hk : K (a.put op.dst r) W') : if Region.wanted op (yielded ops a.tmps) = true then Oper.wp Try.prog op a w K Q else E := by
  rw [if_pos hw]
  unfold Oper.wp execOp
  simp only [hop, List.map_toArray, List.map_cons, List.map_nil, hx, hy, Sem.run_bind, Sem.run_pure, Result.andThen_ok, hr]
  exact hk
theorem bs82 (x y : Int) (W : World) : (Instr.buildSlice 82 2 #[(0, iv x), (1, iv y)]).run Try.prog W = .ok (.slice (some ⟨W.heap.size, 0, none⟩) 2 2) (W.alloc (.cells #[iv x, iv y] 3)) := by kernel_rfl
set_option maxRecDepth 100000 in
set_option maxHeartbeats 4000000 in
theorem cm1 {Q : Exit → Act → World → Prop} {x0 x1 x4 x5 x6 x7 x8 x9 x10 x11 x12 x13 x14 x15 x16 : Value} {ds : List Deferred} {A : World} {d2 d3 : Nat} {x y : Vx} {D : World} {r1 r2 r0 : Int}
    (HCC : Hid (compareBytes x.h y.h = r1 ∧ cmpI x.n y.n = r2 ∧ orI r1 r2 = r0)) (HD : Hid (A.drew = D)) (HR : Hid (Blk D d2 34 x.cells ∧ Blk D d3 34 y.cells)) (HRH : Hid (D.rangeAt d2 0 (U x.h) ∧ D.rangeAt d3 0 (U y.h))) (HV : Hid (x.ok ∧ y.ok))
    (hQ : ∀ gi, Q .normal { tmps := #[x0, x1, .pointer (some ⟨d2, 0, none⟩), .pointer (some ⟨d3, 0, none⟩), iv r0, .pointer (some ⟨d2, 0, none⟩), .slice (some ⟨d2, 0, none⟩) 32 32, .pointer (some ⟨d3, 0, none⟩), .slice (some ⟨d3, 0, none⟩) 32 32, iv r1, .pointer (some ⟨d2, 32, none⟩), iv x.n, .pointer (some ⟨d3, 32, none⟩), iv y.n, iv r2, .slice (some ⟨gi, 0, none⟩) 2 2, iv r0], defers := ds } (D.alloc (.cells #[iv r1, iv r2] 3))) :
    (Code.region 1 #[{ dst := some 5, op := Op.fieldAddr 34 (Operand.tmp 2) 0, type := 0, pos := "tell.go:45", after := #[], guard := none }, { dst := some 6, op := Op.slice 32 (Operand.tmp 5) none none none, type := 131, pos := "tell.go:45", after := #[{ on := 0, ground := Ground.data }], guard := none }, { dst := some 7, op := Op.fieldAddr 34 (Operand.tmp 3) 0, type := 0, pos := "tell.go:45", after := #[], guard := none }, { dst := some 8, op := Op.slice 32 (Operand.tmp 7) none none none, type := 131, pos := "tell.go:45", after := #[{ on := 2, ground := Ground.data }], guard := none }, { dst := some 9, op := Op.call { callee := Callee.value (Operand.func 84), args := #[Operand.tmp 6, Operand.tmp 8], argTypes := #[131, 131] }, type := 3, pos := "tell.go:45", after := #[{ on := 1, ground := Ground.data }, { on := 3, ground := Ground.data }], guard := none }, { dst := some 10, op := Op.fieldAddr 34 (Operand.tmp 2) 1, type := 0, pos := "tell.go:45", after := #[], guard := none }, { dst := some 11, op := Op.load 3 (Operand.tmp 10), type := 3, pos := "tell.go:45", after := #[{ on := 5, ground := Ground.data }], guard := none }, { dst := some 12, op := Op.fieldAddr 34 (Operand.tmp 3) 1, type := 0, pos := "tell.go:45", after := #[], guard := none }, { dst := some 13, op := Op.load 3 (Operand.tmp 12), type := 3, pos := "tell.go:45", after := #[{ on := 7, ground := Ground.data }], guard := none }, { dst := some 14, op := Op.call { callee := Callee.value (Operand.func 85), args := #[Operand.tmp 11, Operand.tmp 13], argTypes := #[3, 3] }, type := 3, pos := "tell.go:45", after := #[{ on := 6, ground := Ground.data }, { on := 8, ground := Ground.data }, { on := 4, ground := Ground.chain }], guard := none }, { dst := some 15, op := Op.buildSlice 82 2 #[(0, Operand.tmp 9), (1, Operand.tmp 14)], type := 82, pos := "tell.go:45", after := #[{ on := 4, ground := Ground.data }, { on := 9, ground := Ground.data }], guard := none }, { dst := some 16, op := Op.call { callee := Callee.value (Operand.func 83), args := #[Operand.tmp 15], argTypes := #[82] }, type := 3, pos := "tell.go:45", after := #[{ on := 10, ground := Ground.data }, { on := 9, ground := Ground.chain }], guard := none }, { dst := some 4, op := Op.assign (Operand.tmp 16), type := 3, pos := "tell.go:45", after := #[{ on := 11, ground := Ground.data }, { on := 11, ground := Ground.chain }, { on := 0, ground := Ground.phase }, { on := 1, ground := Ground.phase }, { on := 2, ground := Ground.phase }, { on := 3, ground := Ground.phase }, { on := 4, ground := Ground.phase }, { on := 5, ground := Ground.phase }, { on := 6, ground := Ground.phase }, { on := 7, ground := Ground.phase }, { on := 8, ground := Ground.phase }, { on := 9, ground := Ground.phase }, { on := 10, ground := Ground.phase }, { on := 11, ground := Ground.phase }], guard := none }] true).wp Try.prog Q { tmps := #[x0, x1, .pointer (some ⟨d2, 0, none⟩), .pointer (some ⟨d3, 0, none⟩), x4, x5, x6, x7, x8, x9, x10, x11, x12, x13, x14, x15, x16], defers := ds } A := by
  refine Code.wp_mono (Q := fun x a' w' => match x with | .normal => Q .normal a' w' | _ => False) (by intro x a' w' h; cases x <;> first | exact h | exact h.elim) ?_
  refine wp_region_held (S := fun V => EqS D (.cells #[iv r1, iv r2] 3) V) (by kernel_rfl) ?_
  have hS0 : Hid (EqS D (.cells #[iv r1, iv r2] 3) A.drew) := .inl HD.out
  change wpAnyH Try.prog .any _ _ (fun V => EqS D (.cells #[iv r1, iv r2] 3) V) 13 (Array.replicate 13 false) _ A.drew
  obtain ⟨V0, hV0⟩ : ∃ V0, A.drew = V0 := ⟨_, rfl⟩
  rw [hV0]
  rw [hV0] at hS0
  have hE0 : Hid (V0 = D) := by
    show V0 = D
    rw [← hV0]
    exact HD.out
  clear hV0
  refine wpAnyH_take (i := 0) (oi := { dst := some 5, op := Op.fieldAddr 34 (Operand.tmp 2) 0, type := 0, pos := "tell.go:45", after := #[], guard := none }) (v := .pointer (some ⟨d2, 0, none⟩)) rfl (by kernel_rfl) (by kernel_rfl) (by kernel_rfl) (fun _ _ _ h => h.elim) (Or.inl ⟨by rfl, ?y1⟩) hS0.out ?_
  case y1 =>
    intro V hV
    go_simp
  simp only [Act.put, List.setIfInBounds_toArray, List.set_cons_zero, List.set_cons_succ]
  refine wpAnyH_take (i := 1) (oi := { dst := some 6, op := Op.slice 32 (Operand.tmp 5) none none none, type := 131, pos := "tell.go:45", after := #[{ on := 0, ground := Ground.data }], guard := none }) (v := .slice (some ⟨d2, 0, none⟩) 32 32) rfl (by kernel_rfl) (by kernel_rfl) (by kernel_rfl) (fun _ _ _ h => h.elim) (Or.inl ⟨by rfl, ?y2⟩) hS0.out ?_
  case y2 =>
    intro V hV
    go_simp
  simp only [Act.put, List.setIfInBounds_toArray, List.set_cons_zero, List.set_cons_succ]
  refine wpAnyH_take (i := 2) (oi := { dst := some 7, op := Op.fieldAddr 34 (Operand.tmp 3) 0, type := 0, pos := "tell.go:45", after := #[], guard := none }) (v := .pointer (some ⟨d3, 0, none⟩)) rfl (by kernel_rfl) (by kernel_rfl) (by kernel_rfl) (fun _ _ _ h => h.elim) (Or.inl ⟨by rfl, ?y3⟩) hS0.out ?_
  case y3 =>
    intro V hV
    go_simp
  simp only [Act.put, List.setIfInBounds_toArray, List.set_cons_zero, List.set_cons_succ]
  refine wpAnyH_take (i := 3) (oi := { dst := some 8, op := Op.slice 32 (Operand.tmp 7) none none none, type := 131, pos := "tell.go:45", after := #[{ on := 2, ground := Ground.data }], guard := none }) (v := .slice (some ⟨d3, 0, none⟩) 32 32) rfl (by kernel_rfl) (by kernel_rfl) (by kernel_rfl) (fun _ _ _ h => h.elim) (Or.inl ⟨by rfl, ?y4⟩) hS0.out ?_
  case y4 =>
    intro V hV
    go_simp
  simp only [Act.put, List.setIfInBounds_toArray, List.set_cons_zero, List.set_cons_succ]
  refine wpAnyH_take (i := 5) (oi := { dst := some 10, op := Op.fieldAddr 34 (Operand.tmp 2) 1, type := 0, pos := "tell.go:45", after := #[], guard := none }) (v := .pointer (some ⟨d2, 32, none⟩)) rfl (by kernel_rfl) (by kernel_rfl) (by kernel_rfl) (fun _ _ _ h => h.elim) (Or.inl ⟨by rfl, ?y5⟩) hS0.out ?_
  case y5 =>
    intro V hV
    go_simp
  simp only [Act.put, List.setIfInBounds_toArray, List.set_cons_zero, List.set_cons_succ]
  refine wpAnyH_take (i := 6) (oi := { dst := some 11, op := Op.load 3 (Operand.tmp 10), type := 3, pos := "tell.go:45", after := #[{ on := 5, ground := Ground.data }], guard := none }) (v := iv x.n) rfl (by kernel_rfl) (by kernel_rfl) (by kernel_rfl) (fun _ _ _ h => h.elim) (Or.inl ⟨by rfl, ?y6⟩) hS0.out ?_
  case y6 =>
    intro V hV
    have hc : V.cell? ⟨d2, 32, none⟩ = some (iv x.n) := eqS_cell hV HR.out.1.lt (HR.out.1.cell (Vx.line HV.out.1))
    go_simp
  simp only [Act.put, List.setIfInBounds_toArray, List.set_cons_zero, List.set_cons_succ]
  refine wpAnyH_take (i := 7) (oi := { dst := some 12, op := Op.fieldAddr 34 (Operand.tmp 3) 1, type := 0, pos := "tell.go:45", after := #[], guard := none }) (v := .pointer (some ⟨d3, 32, none⟩)) rfl (by kernel_rfl) (by kernel_rfl) (by kernel_rfl) (fun _ _ _ h => h.elim) (Or.inl ⟨by rfl, ?y7⟩) hS0.out ?_
  case y7 =>
    intro V hV
    go_simp
  simp only [Act.put, List.setIfInBounds_toArray, List.set_cons_zero, List.set_cons_succ]
  refine wpAnyH_take (i := 8) (oi := { dst := some 13, op := Op.load 3 (Operand.tmp 12), type := 3, pos := "tell.go:45", after := #[{ on := 7, ground := Ground.data }], guard := none }) (v := iv y.n) rfl (by kernel_rfl) (by kernel_rfl) (by kernel_rfl) (fun _ _ _ h => h.elim) (Or.inl ⟨by rfl, ?y8⟩) hS0.out ?_
  case y8 =>
    intro V hV
    have hc : V.cell? ⟨d3, 32, none⟩ = some (iv y.n) := eqS_cell hV HR.out.2.lt (HR.out.2.cell (Vx.line HV.out.2))
    go_simp
  simp only [Act.put, List.setIfInBounds_toArray, List.set_cons_zero, List.set_cons_succ]
  refine wpAnyH_ready (rs := [4]) (by kernel_rfl) (by simp) (AllReadyH.cons (i := 4) (o := { dst := some 9, op := Op.call { callee := Callee.value (Operand.func 84), args := #[Operand.tmp 6, Operand.tmp 8], argTypes := #[131, 131] }, type := 3, pos := "tell.go:45", after := #[{ on := 1, ground := Ground.data }, { on := 3, ground := Ground.data }], guard := none }) rfl ?_ AllReadyH.nil)
  · intro K1 hK1
    rw [if_pos (by rfl)]
    have HC := cmp84 V0 d2 0 d3 0 32 32 x.h y.h (by rw [hE0.out]; exact HRH.out.1) (by rw [hE0.out]; exact HRH.out.2) HV.out.1 HV.out.2
    rw [HCC.out.1] at HC
    go_wp2_with fail
    refine HC.mono ?_
    rintro e V9 ⟨rfl, rfl⟩
    dsimp only
    clear HC
    refine hK1.out _ _ hS0.out ?_
    clear hK1
    intro _
    try simp only [Act.put, List.setIfInBounds_toArray, List.set_cons_zero, List.set_cons_succ]
    refine wpAnyH_ready (rs := [9]) (by kernel_rfl) (by simp) (AllReadyH.cons (i := 9) (o := { dst := some 14, op := Op.call { callee := Callee.value (Operand.func 85), args := #[Operand.tmp 11, Operand.tmp 13], argTypes := #[3, 3] }, type := 3, pos := "tell.go:45", after := #[{ on := 6, ground := Ground.data }, { on := 8, ground := Ground.data }, { on := 4, ground := Ground.chain }], guard := none }) rfl ?_ AllReadyH.nil)
    · intro K1 hK1
      rw [if_pos (by rfl)]
      have HC := cmp85 V0 x.n y.n
      rw [HCC.out.2.1] at HC
      go_wp2_with fail
      refine HC.mono ?_
      rintro e V9 ⟨rfl, rfl⟩
      dsimp only
      clear HC
      refine hK1.out _ _ hS0.out ?_
      clear hK1
      intro _
      try simp only [Act.put, List.setIfInBounds_toArray, List.set_cons_zero, List.set_cons_succ]
      refine wpAnyH_ready (rs := [10]) (by kernel_rfl) (by simp) (AllReadyH.cons (i := 10) (o := { dst := some 15, op := Op.buildSlice 82 2 #[(0, Operand.tmp 9), (1, Operand.tmp 14)], type := 82, pos := "tell.go:45", after := #[{ on := 4, ground := Ground.data }, { on := 9, ground := Ground.data }], guard := none }) rfl ?_ AllReadyH.nil)
      · intro K1 hK1
        refine step_bs2 (by rfl) 82 2 _ _ rfl (iv r1) (iv r2) rfl rfl (.slice (some ⟨V0.heap.size, 0, none⟩) 2 2) (V0.alloc (.cells #[iv r1, iv r2] 3)) (bs82 _ _ V0) ?_
        obtain ⟨gi, hgi⟩ : ∃ g, V0.heap.size = g := ⟨_, rfl⟩
        obtain ⟨V1, hV1⟩ : ∃ V, V0.alloc (.cells #[iv r1, iv r2] 3) = V := ⟨_, rfl⟩
        have hS1 : Hid (EqS D (.cells #[iv r1, iv r2] 3) V1) := by
          show EqS _ _ _
          rw [← hV1]
          exact .inr (by rw [hE0.out])
        have hE1 : Hid (V1 = D.alloc (.cells #[iv r1, iv r2] 3) ∧ Blk V1 gi 3 [iv r1, iv r2]) := ⟨by rw [← hV1, hE0.out], by rw [← hV1, ← hgi]; exact Blk.new V0 _ _⟩
        rw [hgi, hV1]
        clear hgi hV1
        refine hK1.out _ _ hS1.out ?_
        clear hK1
        intro _
        try simp only [Act.put, List.setIfInBounds_toArray, List.set_cons_zero, List.set_cons_succ]
        refine wpAnyH_ready (rs := [11]) (by kernel_rfl) (by simp) (AllReadyH.cons (i := 11) (o := { dst := some 16, op := Op.call { callee := Callee.value (Operand.func 83), args := #[Operand.tmp 15], argTypes := #[82] }, type := 3, pos := "tell.go:45", after := #[{ on := 10, ground := Ground.data }, { on := 9, ground := Ground.chain }], guard := none }) rfl ?_ AllReadyH.nil)
        · intro K1 hK1
          rw [if_pos (by rfl)]
          have HC := or83 V1 gi _ _ (hE1.out.2.cell rfl) (hE1.out.2.cell rfl)
          rw [HCC.out.2.2] at HC
          go_wp2_with fail
          refine HC.mono ?_
          rintro e V9 ⟨rfl, rfl⟩
          dsimp only
          clear HC
          refine hK1.out _ _ hS1.out ?_
          clear hK1
          intro _
          try simp only [Act.put, List.setIfInBounds_toArray, List.set_cons_zero, List.set_cons_succ]
          refine wpAnyH_take (i := 12) (oi := { dst := some 4, op := Op.assign (Operand.tmp 16), type := 3, pos := "tell.go:45", after := #[{ on := 11, ground := Ground.data }, { on := 11, ground := Ground.chain }, { on := 0, ground := Ground.phase }, { on := 1, ground := Ground.phase }, { on := 2, ground := Ground.phase }, { on := 3, ground := Ground.phase }, { on := 4, ground := Ground.phase }, { on := 5, ground := Ground.phase }, { on := 6, ground := Ground.phase }, { on := 7, ground := Ground.phase }, { on := 8, ground := Ground.phase }, { on := 9, ground := Ground.phase }, { on := 10, ground := Ground.phase }, { on := 11, ground := Ground.phase }], guard := none }) (v := iv r0) rfl (by kernel_rfl) (by kernel_rfl) (by kernel_rfl) (fun _ _ _ h => h.elim) (Or.inl ⟨by rfl, ?y9⟩) hS1.out ?_
          case y9 =>
            intro V hV
            go_simp
          simp only [Act.put, List.setIfInBounds_toArray, List.set_cons_zero, List.set_cons_succ]
          refine wpAnyH_done (by kernel_rfl) ?_ _
          exact (by rw [hE1.out.1]; exact hQ gi)
end Go.Proofs.Ytjcihaohpbmogaa.Oct

/- Layer 11 (lines): slices.SortFunc as this program bears it: the body of which the library's contract was proved. -/
namespace Go.Proofs.Ytjcihaohpbmogaa.Oct
open Go.Shelf
def laysSF_ren : Go.Shelf.Ren := ⟨fun | 6 => 81 | 15 => 89 | 14 => 88 | 28 => 100 | 29 => 101 | 20 => 92 | 21 => 93 | 22 => 94 | 23 => 95 | 24 => 96 | 25 => 97 | 26 => 98 | 27 => 99 | 46 => 102 | 47 => 103 | 48 => 104 | 49 => 105 | 50 => 106 | 57 => 107 | n => n, fun | 22 => 35 | 24 => 34 | 25 => 133 | 3 => 3 | 39 => 55 | 0 => 0 | 53 => 147 | 55 => 93 | 4 => 4 | 46 => 141 | 45 => 140 | 50 => 118 | 5 => 5 | 9 => 9 | 66 => 148 | 70 => 152 | 76 => 154 | 77 => 155 | n => n, fun | n => n⟩
theorem laysSF : Go.Proofs.SlLaysF0.n6 Try.prog laysSF_ren := {
  mixed := by kernel_rfl
  f6 := ⟨Try.f81.name, by decide, Try.func81.trans (congrArg some (by kernel_rfl))⟩
  f14 := ⟨Try.f88.name, by decide, Try.func88.trans (congrArg some (by kernel_rfl))⟩
  f15 := Try.func89.trans (congrArg some (by kernel_rfl))
  f20 := ⟨Try.f92.name, by decide, Try.func92.trans (congrArg some (by kernel_rfl))⟩
  f21 := ⟨Try.f93.name, by decide, Try.func93.trans (congrArg some (by kernel_rfl))⟩
  f22 := ⟨Try.f94.name, by decide, Try.func94.trans (congrArg some (by kernel_rfl))⟩
  f23 := ⟨Try.f95.name, by decide, Try.func95.trans (congrArg some (by kernel_rfl))⟩
  f24 := ⟨Try.f96.name, by decide, Try.func96.trans (congrArg some (by kernel_rfl))⟩
  f25 := ⟨Try.f97.name, by decide, Try.func97.trans (congrArg some (by kernel_rfl))⟩
  f26 := ⟨Try.f98.name, by decide, Try.func98.trans (congrArg some (by kernel_rfl))⟩
  f27 := ⟨Try.f99.name, by decide, Try.func99.trans (congrArg some (by kernel_rfl))⟩
  f28 := Try.func100.trans (congrArg some (by kernel_rfl))
  f29 := Try.func101.trans (congrArg some (by kernel_rfl))
  f46 := ⟨Try.f102.name, by decide, Try.func102.trans (congrArg some (by kernel_rfl))⟩
  f47 := Try.func103.trans (congrArg some (by kernel_rfl))
  f48 := Try.func104.trans (congrArg some (by kernel_rfl))
  f49 := ⟨Try.f105.name, by decide, Try.func105.trans (congrArg some (by kernel_rfl))⟩
  f50 := ⟨Try.f106.name, by decide, Try.func106.trans (congrArg some (by kernel_rfl))⟩
  f57 := ⟨Try.f107.name, by decide, Try.func107.trans (congrArg some (by kernel_rfl))⟩
  t0 := Try.underlying0
  a0 := Try.isAgg0
  z0 := Try.sizeOf0
  v0 := Try.zeroValue0
  t3 := Try.underlying3
  a3 := Try.isAgg3
  z3 := Try.sizeOf3
  v3 := Try.zeroValue3
  t4 := Try.underlying4
  a4 := Try.isAgg4
  z4 := Try.sizeOf4
  v4 := Try.zeroValue4
  t5 := Try.underlying5
  a5 := Try.isAgg5
  z5 := Try.sizeOf5
  v5 := Try.zeroValue5
  t9 := Try.underlying9
  a9 := Try.isAgg9
  z9 := Try.sizeOf9
  v9 := Try.zeroValue9
  t22 := Try.underlying35
  a22 := Try.isAgg35
  z22 := Try.sizeOf35
  v22 := Try.zeroValue35
  t25 := Try.underlying133
  a25 := Try.isAgg133
  z25 := Try.sizeOf133
  v25 := Try.zeroValue133
  t39 := Try.underlying55
  a39 := Try.isAgg55
  z39 := Try.sizeOf55
  v39 := Try.zeroValue55
  t45 := Try.underlying140
  a45 := Try.isAgg140
  z45 := Try.sizeOf140
  v45 := Try.zeroValue140
  t46 := Try.underlying141
  a46 := Try.isAgg141
  z46 := Try.sizeOf141
  v46 := Try.zeroValue141
  t50 := Try.underlying118
  a50 := Try.isAgg118
  z50 := Try.sizeOf118
  v50 := Try.zeroValue118
  t53 := Try.underlying147
  a53 := Try.isAgg147
  z53 := Try.sizeOf147
  v53 := Try.zeroValue147
  t55 := Try.underlying93
  a55 := Try.isAgg93
  z55 := Try.sizeOf93
  v55 := Try.zeroValue93
  t66 := Try.underlying148
  a66 := Try.isAgg148
  z66 := Try.sizeOf148
  v66 := Try.zeroValue148
  t70 := Try.underlying152
  a70 := Try.isAgg152
  z70 := Try.sizeOf152
  v70 := Try.zeroValue152
  t76 := Try.underlying154
  a76 := Try.isAgg154
  z76 := Try.sizeOf154
  v76 := Try.zeroValue154
  t77 := Try.underlying155
  a77 := Try.isAgg155
  z77 := Try.sizeOf155
  v77 := Try.zeroValue155 }
end Go.Proofs.Ytjcihaohpbmogaa.Oct

/- Layer 11 (lines): the sort. -/
namespace Go.Proofs.Ytjcihaohpbmogaa.Oct
open Go.RowKit Go.Shelf Go.Lib Go.Sort
set_option maxRecDepth 100000
set_option linter.unusedSimpArgs false
set_option linter.unusedVariables false
set_option linter.unusedSectionVars false

/-- one vertex stands ahead of another -/
def LtV (a b : Vx) : Prop := LtH a.h b.h ∨ (a.h = b.h ∧ a.n < b.n)
theorem cfV_lt (a b : Vx) : cfV a b < 0 ↔ LtV a b := by
  unfold cfV orI LtV LtH cmpI
  by_cases h0 : compareBytes a.h b.h = 0
  · have he := cb_zero _ _ h0
    rw [if_neg (by simpa using h0)]
    constructor
    · intro h
      refine .inr ⟨he, ?_⟩
      split at h
      · assumption
      · split at h <;> omega
    · rintro (h | ⟨_, h⟩)
      · omega
      · rw [if_pos h]; omega
  · rw [if_pos h0]
    constructor
    · exact .inl
    · rintro (h | ⟨h, _⟩)
      · exact h
      · rw [h, cb_self] at h0; exact absurd rfl h0
theorem LtV.irr (a : Vx) : ¬ LtV a a := by
  rintro (h | ⟨_, h⟩)
  · exact LtH.irr _ h
  · omega
theorem LtV.tr {a b c : Vx} (h : LtV a b) (k : LtV b c) : LtV a c := by
  rcases h with h | ⟨h1, h2⟩ <;> rcases k with k | ⟨k1, k2⟩
  · exact .inl (h.tr k)
  · exact .inl (k1 ▸ h)
  · exact .inl (h1 ▸ k)
  · exact .inr ⟨h1.trans k1, by omega⟩
theorem LtV.tri (a b : Vx) : LtV a b ∨ a = b ∨ LtV b a := by
  rcases LtH.tri a.h b.h with h | h | h
  · exact .inl (.inl h)
  · rcases Int.lt_trichotomy a.n b.n with k | k | k
    · exact .inl (.inr ⟨h, k⟩)
    · refine .inr (.inl ?_)
      cases a; cases b; simp_all
    · exact .inr (.inr (.inr ⟨h.symm, k⟩))
  · exact .inr (.inr (.inl h))
instance (a b : Vx) : Decidable (LtV a b) := decidable_of_iff _ (cfV_lt a b)
/-- vertices of 32 bytes -/
abbrev V33 := { v : Vx // v.ok }
instance : Inhabited V33 := ⟨⟨vTop, vTop_ok⟩⟩
def encV (x : V33) : List Value := x.1.cells
def cf33 (x y : V33) : Int := cfV x.1 y.1
theorem lt33 (x y : V33) : ltOf cf33 x y = decide (LtV x.1 y.1) := by
  unfold ltOf cf33
  exact decide_eq_decide.2 (cfV_lt _ _)
theorem swo33 : SWO (ltOf cf33) where
  irrefl x := by rw [lt33]; simpa using LtV.irr x.1
  trans x y z h1 h2 := by rw [lt33] at *; simp at *; exact h1.tr h2
  ntrans x y z h1 h2 := by
    rw [lt33] at *
    simp only [decide_eq_false_iff_not] at *
    intro h
    rcases LtV.tri x.1 y.1 with h3 | h3 | h3
    · exact h1 h3
    · rw [h3] at h; exact h2 h
    · exact h2 (h3.tr h)
set_option maxHeartbeats 1000000 in
theorem closure82 (x y : Vx) (hx : x.ok) (hy : y.ok) (W : World) : Calls Try.prog 82 #[.agg x.cells.toArray, .agg y.cells.toArray] W fun e w' => e = .returned (.int .i64 (cfV x y)) ∧ ∃ q os', w' = grow (W.drewN q) os' := by
  obtain ⟨r1, h1⟩ : ∃ r, compareBytes x.h y.h = r := ⟨_, rfl⟩
  obtain ⟨r2, h2⟩ : ∃ r, cmpI x.n y.n = r := ⟨_, rfl⟩
  obtain ⟨r0, h0⟩ : ∃ r, orI r1 r2 = r := ⟨_, rfl⟩
  have HCC : Hid (compareBytes x.h y.h = r1 ∧ cmpI x.n y.n = r2 ∧ orI r1 r2 = r0) := ⟨h1, h2, h0⟩
  have hcf : cfV x y = r0 := by unfold cfV; rw [h1, h2, h0]
  rw [hcf]
  clear h1 h2 h0 hcf
  obtain ⟨d2, hd2⟩ : ∃ d, W.heap.size = d := ⟨_, rfl⟩
  obtain ⟨W1, hW1⟩ : ∃ W1, W.alloc (.cells x.cells.toArray 34) = W1 := ⟨_, rfl⟩
  obtain ⟨d3, hd3⟩ : ∃ d, W1.heap.size = d := ⟨_, rfl⟩
  obtain ⟨W2, hW2⟩ : ∃ W2, W1.alloc (.cells y.cells.toArray 34) = W2 := ⟨_, rfl⟩
  have b2 : Below W1.heap.size W1 W2 := by rw [← hW2]; exact below_al _ _
  have k2 : Blk W1 d2 34 x.cells := by rw [← hW1, ← hd2]; exact Blk.new W _ _
  have k3 : Blk W2 d3 34 y.cells := by rw [← hW2, ← hd3]; exact Blk.new W1 _ _
  have k2' : Blk W2 d2 34 x.cells := k2.below b2 k2.lt
  have HR : Hid (Blk W2.drew d2 34 x.cells ∧ Blk W2.drew d3 34 y.cells) := ⟨k2', k3⟩
  have HRH : Hid (W2.drew.rangeAt d2 0 (U x.h) ∧ W2.drew.rangeAt d3 0 (U y.h)) := by
    have e2 := k2'.range 0 32
    have e3 := k3.range 0 32
    rw [List.drop_zero, Vx.hash hx] at e2
    rw [List.drop_zero, Vx.hash hy] at e3
    exact ⟨e2, e3⟩
  have HV : Hid (x.ok ∧ y.ok) := ⟨hx, hy⟩
  have HWW : Hid (W2 = (W.alloc (.cells x.cells.toArray 34)).alloc (.cells y.cells.toArray 34)) := by
    show W2 = _
    rw [hW1, hW2]
  have q1 := Vx.one x
  have q1b := Vx.one y
  have q2 := Try.underlying34
  have q3 := info34 hx
  have q3b := info34 hy
  have q4 := Vx.len hx
  have q4b := Vx.len hy
  clear b2 k2 k3 k2' hx hy
  go_enter Try.func82, Try.ntmps82
  go_wp2_with fail
  refine cm1 (D := W2.drew) HCC rfl HR HRH HV ?_
  intro gi
  clear hW1 hW2 hd2 hd3 q1 q1b q2 q3 q3b q4 q4b
  go_wp2
  go_ret
  refine ⟨rfl, 1, #[.cells x.cells.toArray 34] ++ #[.cells y.cells.toArray 34] ++ #[.cells #[iv r1, iv r2] 3], ?_⟩
  rw [HWW.out]
  rw [alloc_eq_grow, alloc_eq_grow, alloc_eq_grow, grow_grow]
  first
  | rfl
  | (show grow (World.drewN (grow W _) 1) _ = _; rw [← grow_grow]; rfl)
theorem cmpLays82 (blk off size : Nat) (w : World) : CmpLays Try.prog 82 #[] encV 33 cf33 blk off size w :=
  fun _ _ _ _ x y => closure82 x.1 y.1 x.2 y.2 _
def toV (vs : List Vx) (hl : ∀ v ∈ vs, v.ok) : List V33 := vs.attach.map fun x => ⟨x.1, hl x.1 x.2⟩
theorem toV_val (vs : List Vx) (hl : ∀ v ∈ vs, v.ok) : (toV vs hl).map (·.1) = vs := by
  unfold toV
  rw [List.map_map]
  show vs.attach.map (fun x => x.1) = vs
  simp
theorem toV_length (vs : List Vx) (hl : ∀ v ∈ vs, v.ok) : (toV vs hl).length = vs.length := by simp [toV]
theorem holds_of {w : World} {g : Nat} {hs : List Vx} (hl : ∀ h ∈ hs, h.ok) {cur : Array Value} (hg : w.heap[g]? = some (.cells cur 34 (0, 0))) (hr : ∀ i h, hs[i]? = some h → w.rangeAt g (0 + i * 33) h.cells) : HoldsK encV 33 w g 0 (toV hs hl).toArray := by
  intro j hj
  have hj' : j < hs.length * 33 := by simpa [toV_length] using hj
  refine ⟨?_, frozen_of_row w g _ _ 34 hg⟩
  have hi : j / 33 < hs.length := by omega
  have hd : ((toV hs hl).toArray[j / 33]!).1 = hs[j / 33] := by
    have e : ((toV hs hl)[j / 33]?).map (·.1) = some hs[j / 33] := by
      rw [← List.getElem?_map, toV_val, List.getElem?_eq_getElem hi]
    have hlt : j / 33 < (toV hs hl).length := by rw [toV_length]; exact hi
    rw [List.getElem?_eq_getElem hlt] at e
    simp only [Option.map_some, Option.some.injEq] at e
    rw [getElem!_pos _ _ (by simpa using hlt)]
    simpa using e
  have hc := hr (j / 33) hs[j / 33] (List.getElem?_eq_getElem hi) (j % 33)
  have hlen : (hs[j / 33]).cells.length = 33 := Vx.len (hl _ (List.getElem_mem hi))
  have hc2 := hc (hs[j / 33]).cells[j % 33] (List.getElem?_eq_getElem (by omega))
  rw [show 0 + j / 33 * 33 + j % 33 = 0 + j by omega] at hc2
  rw [hc2, get_flatK _ _ _ _ (by simpa [toV_length] using hj')]
  simp only [id]
  unfold encV
  rw [hd, getElem!_pos _ _ (by omega)]
theorem of_holds {w : World} {g : Nat} {d : List V33} (h : HoldsK encV 33 w g 0 d.toArray) (hg : g < w.heap.size) : ∀ i x, (d.map (·.1))[i]? = some x → w.rangeAt g (0 + i * 33) x.cells := by
  intro i x hi
  rw [List.getElem?_map] at hi
  obtain ⟨y, hy, rfl⟩ := Option.map_eq_some_iff.1 hi
  obtain ⟨hlt, hy2⟩ := List.getElem?_eq_some_iff.1 hy
  intro c v hv
  have hc : c < 33 := by have := (List.getElem?_eq_some_iff.1 hv).1; rw [Vx.len y.2] at this; exact this
  have h1 := (h (i * 33 + c) (by simp; omega)).1
  rw [get_flatK _ _ _ _ (by simp; omega), show (i * 33 + c) / 33 = i by omega, show (i * 33 + c) % 33 = c by omega] at h1
  simp only [id] at h1
  rw [show 0 + i * 33 + c = 0 + (i * 33 + c) by omega, h1]
  have e : d.toArray[i]! = y := by rw [getElem!_pos _ _ (by simpa using hlt)]; simpa using hy2
  rw [e]
  unfold encV
  rw [getElem!_pos _ _ (by rw [Vx.len y.2]; exact hc)]
  have := (List.getElem?_eq_some_iff.1 hv).2
  rw [this]
theorem grown_sort (w : World) (g m : Nat) (d : Array V33) (os : Array Obj) : w.grownBy (sortWorldK encV 33 w g 0 m d os) (some g) := by
  refine ⟨rfl, rfl, rfl, ?_, fun k hk hne => ?_⟩
  · simp [sortWorldK, grow, putRowK, putRow, mapBlock]
  · unfold sortWorldK
    rw [heap_grow_old _ _ (by simpa [putRowK, putRow, mapBlock, ahead] using hk)]
    have hkg : g ≠ k := fun e => hne (by rw [e])
    simp [putRowK, putRow, mapBlock, Array.getElem?_modify, hkg]
end Go.Proofs.Ytjcihaohpbmogaa.Oct
