/-
  Layer 11 (lines): maps.Clone as this program bears it: the body of which the library's contract was proved.
  Layer 11 (lines): ref.Same: what is told is the same.
  Layer 11 (lines): ref.Same.
  Layer 11 (lines): copies of ids and texts.
-/
import Derived.Test.YtjcihaohpbmogaaRows
import Derived.Shelf.SlMaps.Clone
import Derived.Test.YtjcihaohpbmogaaQpAT
/- Layer 11 (lines): maps.Clone as this program bears it: the body of which the library's contract was proved. -/
namespace Go.Proofs.Ytjcihaohpbmogaa.Oct
open Go.Shelf
def laysMC_ren : Go.Shelf.Ren := ⟨fun | 5 => 59 | 7 => 76 | n => n, fun | 23 => 84 | 25 => 32 | 3 => 90 | 4 => 4 | 20 => 20 | n => n, fun | n => n⟩
theorem laysMC : Go.Proofs.SlLaysW.n5 Try.prog laysMC_ren := {
  mixed := by kernel_rfl
  f5 := ⟨Try.f59.name, by decide, Try.func59.trans (congrArg some (by kernel_rfl))⟩
  f7 := Try.func76.trans (congrArg some (by kernel_rfl))
  t4 := Try.underlying4
  a4 := Try.isAgg4
  z4 := Try.sizeOf4
  v4 := Try.zeroValue4
  t20 := Try.underlying20
  a20 := Try.isAgg20
  z20 := Try.sizeOf20
  v20 := Try.zeroValue20
  t23 := Try.underlying84
  a23 := Try.isAgg84
  z23 := Try.sizeOf84
  v23 := Try.zeroValue84 }
end Go.Proofs.Ytjcihaohpbmogaa.Oct

/- Layer 11 (lines): ref.Same: what is told is the same. -/
namespace Go.Proofs.Ytjcihaohpbmogaa.Oct
open Go.RowKit
set_option maxRecDepth 100000
set_option linter.unusedSimpArgs false
set_option linter.unusedVariables false
set_option linter.unusedSectionVars false

theorem fields50 : (Try.prog.fieldsOf 50).toList.map (fun f => (f.name, f.type, f.offset)) = [("Vertex", 34, 0), ("Text", 9, 33), ("Kills", 3, 34)] := by kernel_rfl
theorem part34 (xs : Array Value) (v : Vx) (h : xs.extract 0 33 = v.cells.toArray) (W : World) : (part 34 xs 0).run Try.prog W = .ok (.agg v.cells.toArray) W := by
  have hs : (sizeOf 34).run Try.prog W = .ok 33 W := by kernel_rfl
  have ha : (isAgg 34).run Try.prog W = .ok true W := by simp [isAgg, run_underlying Try.underlying34]
  simp [part, ha, hs, h]
theorem exS (x : Sx) (h : Sk x) : x.cells.toArray.extract 0 33 = x.v.cells.toArray := by
  apply Array.toList_inj.1
  rw [Array.toList_extract, List.extract_eq_take_drop]
  show (x.cells.drop 0).take 33 = _
  unfold Sx.cells
  rw [List.drop_zero, List.take_left' (Vx.len h.1)]
def eqSx (x y : Sx) : Bool := eqVx x.v y.v && (decide (x.t = y.t) && decide (x.k = y.k))
theorem eqSx_iff (x y : Sx) : eqSx x y = true ↔ x = y := by
  unfold eqSx
  simp only [Bool.and_eq_true, decide_eq_true_eq, eqVx_iff]
  cases x; cases y; simp
theorem eqS (k : Nat) (x y : Sx) (hx : Sk x) (hy : Sk y) (W : World) : (Op.equalIn (k + 4) 50 (.agg x.cells.toArray) (.agg y.cells.toArray)).run Try.prog W = .ok (eqSx x y) W := by
  rw [run_equalIn_struct W (k + 3) 50 _ _ (by kernel_rfl) (by kernel_rfl), eqT_is, fields50]
  have p1 := part34 _ _ (exS x hx) W
  have p2 := part34 _ _ (exS y hy) W
  have p3 := fun (e : Sx) (he : Sk e) => part3 9 _ Try.underlying9 rfl e.cells.toArray 33 (.string e.t) (by rw [List.getElem?_toArray]; exact Sx.text he) W
  have p4 := fun (e : Sx) (he : Sk e) => part3 3 _ Try.underlying3 rfl e.cells.toArray 34 (iv (e.k : Int)) (by rw [List.getElem?_toArray]; exact Sx.kn he) W
  have q1 : (Op.equalIn (k + 3) 34 (.agg x.v.cells.toArray) (.agg y.v.cells.toArray)).run Try.prog W = .ok (eqVx x.v y.v) W := eqV k x.v y.v hx.1 hy.1 W
  have q2 : (Op.equalIn (k + 3) 9 (.string x.t) (.string y.t)).run Try.prog W = .ok (decide (x.t = y.t)) W := by
    have h : (ByteArray.toList x.t == ByteArray.toList y.t) = decide (x.t = y.t) := by
      rw [Bool.eq_iff_iff, beq_iff_eq, decide_eq_true_eq]
      exact ⟨fun e => ba_ext (by rw [← toList_d, ← toList_d, e]), fun e => by rw [e]⟩
    rw [← h]
    exact run_equalIn_string (P := Try.prog) (w := W) (k + 2) 9 x.t y.t Try.underlying9
  have q3 : (Op.equalIn (k + 3) 3 (iv (x.k : Int)) (iv (y.k : Int))).run Try.prog W = .ok ((x.k : Int) == (y.k : Int)) W := run_equalIn_int (P := Try.prog) (w := W) (k + 2) 3 .i64 .i64 _ _ Try.underlying3
  have e5 : (eqT (k + 3) x.cells.toArray y.cells.toArray []).run Try.prog W = .ok true W := rfl
  have r := eqT_cons (by decide : "Vertex" ≠ "_") p1 p2 q1 (eqT_cons (by decide : "Text" ≠ "_") (p3 x hx) (p3 y hy) q2 (eqT_cons (by decide : "Kills" ≠ "_") (p4 x hx) (p4 y hy) q3 e5))
  have hk : ((x.k : Int) == (y.k : Int)) = decide (x.k = y.k) := by
    rw [Bool.eq_iff_iff, beq_iff_eq, decide_eq_true_eq]
    omega
  rw [r, Bool.and_true, hk]
  rfl
theorem neSb (x y : Sx) (hx : Sk x) (hy : Sk y) (W : World) : (binOp .neq 50 (.agg x.cells.toArray) (.agg y.cells.toArray)).run Try.prog W = .ok (.bool (!eqSx x y)) W := by
  have h := eqS 9996 x y hx hy W
  rw [run_neq_struct, show (Op.equalIn 10000 50 (.agg x.cells.toArray) (.agg y.cells.toArray)).run Try.prog W = _ from h]; rfl
theorem yl_neS {o : Oper} {a : Act} (V : World) (p q : Operand) (x y : Sx) (hx : Sk x) (hy : Sk y) (B : Bool) (hB : (!eqSx x y) = B) (hop : o.op = .binOp .neq 50 p q 50) (h1 : a.eval p = .agg x.cells.toArray) (h2 : a.eval q = .agg y.cells.toArray) : (execOp a.eval o).run Try.prog V = .ok (.value (.bool B)) V := by
  have h := neSb x y hx hy V
  rw [hB] at h
  unfold execOp
  simp only [hop, h1, h2, Sem.run_bind, Sem.run_pure]
  have hg : (eqGuard BinOp.neq 50 p q (.agg x.cells.toArray) (.agg y.cells.toArray)).run Try.prog V = .ok () V := by
    first
    | (simp [eqGuard, go_sem]; done)
    | (unfold eqGuard; simp [go_sem, Try.underlying34]; done)
    | (unfold eqGuard; go_simp; done)
  rw [hg]
  simp only [Result.andThen_ok, h]
set_option maxRecDepth 100000 in
set_option maxHeartbeats 4000000 in
theorem sm6 {Q : Exit → Act → World → Prop} {x2 x3 x4 x6 x7 x8 x9 x10 x11 x12 x13 x14 x15 x16 x17 x18 x19 x20 x21 x22 x23 x24 x25 : Value} {ds : List Deferred} {A : World} {g1 o1 k1 g2 o2 k2 n i : Nat} {s t : Sx} {B : Bool}
    (HL : Hid (g1 < A.heap.size ∧ g2 < A.heap.size)) (HR : Hid (A.rangeAt g1 (o1 + i * 35) s.cells ∧ A.rangeAt g2 (o2 + i * 35) t.cells)) (HV : Hid (Sk s ∧ Sk t)) (HB : Hid ((!eqSx s t) = B)) (q1 : (i : Int) < (n : Int)) (q2 : i < n)
    (hQ : ∀ V1, Below A.heap.size A V1 → Q .normal { tmps := #[.slice (some ⟨g1, o1, none⟩) n k1, .slice (some ⟨g2, o2, none⟩) n k2, x2, x3, x4, iv (i : Int), x6, x7, x8, x9, x10, x11, x12, x13, x14, x15, x16, .slice (some ⟨g1, o1, none⟩) n k1, iv (i : Int), .pointer (some ⟨g1, o1 + i * 35, none⟩), .agg s.cells.toArray, .slice (some ⟨g2, o2, none⟩) n k2, iv (i : Int), .pointer (some ⟨g2, o2 + i * 35, none⟩), .agg t.cells.toArray, .bool B], defers := ds } V1) :
    (Code.region 6 #[{ dst := some 17, op := Op.move (Operand.tmp 0), type := 45, pos := "ref.go:341", after := #[], guard := none }, { dst := some 18, op := Op.move (Operand.tmp 5), type := 3, pos := "ref.go:341", after := #[], guard := none }, { dst := some 19, op := Op.indexAddr 45 (Operand.tmp 17) (Operand.tmp 18), type := 0, pos := "ref.go:341", after := #[{ on := 0, ground := Ground.data }, { on := 1, ground := Ground.data }], guard := none }, { dst := some 20, op := Op.load 50 (Operand.tmp 19), type := 50, pos := "ref.go:341", after := #[{ on := 2, ground := Ground.data }], guard := none }, { dst := some 21, op := Op.move (Operand.tmp 1), type := 45, pos := "ref.go:341", after := #[], guard := none }, { dst := some 22, op := Op.move (Operand.tmp 5), type := 3, pos := "ref.go:341", after := #[], guard := none }, { dst := some 23, op := Op.indexAddr 45 (Operand.tmp 21) (Operand.tmp 22), type := 0, pos := "ref.go:341", after := #[{ on := 4, ground := Ground.data }, { on := 5, ground := Ground.data }], guard := none }, { dst := some 24, op := Op.load 50 (Operand.tmp 23), type := 50, pos := "ref.go:341", after := #[{ on := 6, ground := Ground.data }], guard := none }, { dst := some 25, op := Op.binOp BinOp.neq 50 (Operand.tmp 20) (Operand.tmp 24) 50, type := 4, pos := "ref.go:341", after := #[{ on := 3, ground := Ground.data }, { on := 7, ground := Ground.data }], guard := none }] true).wp Try.prog Q { tmps := #[.slice (some ⟨g1, o1, none⟩) n k1, .slice (some ⟨g2, o2, none⟩) n k2, x2, x3, x4, iv (i : Int), x6, x7, x8, x9, x10, x11, x12, x13, x14, x15, x16, x17, x18, x19, x20, x21, x22, x23, x24, x25], defers := ds } A := by
  refine Code.wp_mono (Q := fun x a' w' => match x with | .normal => Q .normal a' w' | _ => False) (by intro x a' w' h; cases x <;> first | exact h | exact h.elim) ?_
  refine wp_region_held (S := fun V => Below A.heap.size A V) (by kernel_rfl) ?_
  have hS0 : Hid (Below A.heap.size A A.drew) := below_drew0 A
  change wpAnyH Try.prog .any _ _ (fun V => Below A.heap.size A V) 9 (Array.replicate 9 false) _ A.drew
  obtain ⟨V0, hV0⟩ : ∃ V0, A.drew = V0 := ⟨_, rfl⟩
  rw [hV0]
  rw [hV0] at hS0
  clear hV0
  refine wpAnyH_take (i := 0) (oi := { dst := some 17, op := Op.move (Operand.tmp 0), type := 45, pos := "ref.go:341", after := #[], guard := none }) (v := .slice (some ⟨g1, o1, none⟩) n k1) rfl (by kernel_rfl) (by kernel_rfl) (by kernel_rfl) (fun _ _ _ h => h.elim) (Or.inl ⟨by rfl, ?y1⟩) hS0.out ?_
  case y1 =>
    intro V hV
    go_simp
  simp only [Act.put, List.setIfInBounds_toArray, List.set_cons_zero, List.set_cons_succ]
  refine wpAnyH_take (i := 1) (oi := { dst := some 18, op := Op.move (Operand.tmp 5), type := 3, pos := "ref.go:341", after := #[], guard := none }) (v := iv (i : Int)) rfl (by kernel_rfl) (by kernel_rfl) (by kernel_rfl) (fun _ _ _ h => h.elim) (Or.inl ⟨by rfl, ?y2⟩) hS0.out ?_
  case y2 =>
    intro V hV
    go_simp
  simp only [Act.put, List.setIfInBounds_toArray, List.set_cons_zero, List.set_cons_succ]
  refine wpAnyH_take (i := 2) (oi := { dst := some 19, op := Op.indexAddr 45 (Operand.tmp 17) (Operand.tmp 18), type := 0, pos := "ref.go:341", after := #[{ on := 0, ground := Ground.data }, { on := 1, ground := Ground.data }], guard := none }) (v := .pointer (some ⟨g1, o1 + i * 35, none⟩)) rfl (by kernel_rfl) (by kernel_rfl) (by kernel_rfl) (fun _ _ _ h => h.elim) (Or.inl ⟨by rfl, ?y3⟩) hS0.out ?_
  case y3 =>
    intro V hV
    have hcmp := q1
    have hcmp2 := q2
    go_simp
  simp only [Act.put, List.setIfInBounds_toArray, List.set_cons_zero, List.set_cons_succ]
  refine wpAnyH_take (i := 3) (oi := { dst := some 20, op := Op.load 50 (Operand.tmp 19), type := 50, pos := "ref.go:341", after := #[{ on := 2, ground := Ground.data }], guard := none }) (v := .agg s.cells.toArray) rfl (by kernel_rfl) (by kernel_rfl) (by kernel_rfl) (fun _ _ _ h => h.elim) (yieldsIf_load_mid (by rfl) _ _ rfl _ _ rfl (s.cells) _ (fun V hV => rangeAt_same (HR.out.1) ((show Below A.heap.size A V from hV).block _ (HL.out.1))) Try.underlying50 rfl (info50 HV.out.1)) hS0.out ?_
  simp only [Act.put, List.setIfInBounds_toArray, List.set_cons_zero, List.set_cons_succ]
  refine wpAnyH_take (i := 4) (oi := { dst := some 21, op := Op.move (Operand.tmp 1), type := 45, pos := "ref.go:341", after := #[], guard := none }) (v := .slice (some ⟨g2, o2, none⟩) n k2) rfl (by kernel_rfl) (by kernel_rfl) (by kernel_rfl) (fun _ _ _ h => h.elim) (Or.inl ⟨by rfl, ?y4⟩) hS0.out ?_
  case y4 =>
    intro V hV
    go_simp
  simp only [Act.put, List.setIfInBounds_toArray, List.set_cons_zero, List.set_cons_succ]
  refine wpAnyH_take (i := 5) (oi := { dst := some 22, op := Op.move (Operand.tmp 5), type := 3, pos := "ref.go:341", after := #[], guard := none }) (v := iv (i : Int)) rfl (by kernel_rfl) (by kernel_rfl) (by kernel_rfl) (fun _ _ _ h => h.elim) (Or.inl ⟨by rfl, ?y5⟩) hS0.out ?_
  case y5 =>
    intro V hV
    go_simp
  simp only [Act.put, List.setIfInBounds_toArray, List.set_cons_zero, List.set_cons_succ]
  refine wpAnyH_take (i := 6) (oi := { dst := some 23, op := Op.indexAddr 45 (Operand.tmp 21) (Operand.tmp 22), type := 0, pos := "ref.go:341", after := #[{ on := 4, ground := Ground.data }, { on := 5, ground := Ground.data }], guard := none }) (v := .pointer (some ⟨g2, o2 + i * 35, none⟩)) rfl (by kernel_rfl) (by kernel_rfl) (by kernel_rfl) (fun _ _ _ h => h.elim) (Or.inl ⟨by rfl, ?y6⟩) hS0.out ?_
  case y6 =>
    intro V hV
    have hcmp := q1
    have hcmp2 := q2
    go_simp
  simp only [Act.put, List.setIfInBounds_toArray, List.set_cons_zero, List.set_cons_succ]
  refine wpAnyH_take (i := 7) (oi := { dst := some 24, op := Op.load 50 (Operand.tmp 23), type := 50, pos := "ref.go:341", after := #[{ on := 6, ground := Ground.data }], guard := none }) (v := .agg t.cells.toArray) rfl (by kernel_rfl) (by kernel_rfl) (by kernel_rfl) (fun _ _ _ h => h.elim) (yieldsIf_load_mid (by rfl) _ _ rfl _ _ rfl (t.cells) _ (fun V hV => rangeAt_same (HR.out.2) ((show Below A.heap.size A V from hV).block _ (HL.out.2))) Try.underlying50 rfl (info50 HV.out.2)) hS0.out ?_
  simp only [Act.put, List.setIfInBounds_toArray, List.set_cons_zero, List.set_cons_succ]
  refine wpAnyH_take (i := 8) (oi := { dst := some 25, op := Op.binOp BinOp.neq 50 (Operand.tmp 20) (Operand.tmp 24) 50, type := 4, pos := "ref.go:341", after := #[{ on := 3, ground := Ground.data }, { on := 7, ground := Ground.data }], guard := none }) (v := .bool B) rfl (by kernel_rfl) (by kernel_rfl) (by kernel_rfl) (fun _ _ _ h => h.elim) (Or.inl ⟨by rfl, ?y7⟩) hS0.out ?_
  case y7 =>
    intro V hV
    exact yl_neS V _ _ s t HV.out.1 HV.out.2 B HB.out rfl rfl rfl
  simp only [Act.put, List.setIfInBounds_toArray, List.set_cons_zero, List.set_cons_succ]
  refine wpAnyH_done (by kernel_rfl) ?_ _
  exact hQ V0 hS0.out
end Go.Proofs.Ytjcihaohpbmogaa.Oct

/- Layer 11 (lines): ref.Same. -/
namespace Go.Proofs.Ytjcihaohpbmogaa.Oct
open Go.RowKit
set_option maxRecDepth 100000
set_option linter.unusedSimpArgs false
set_option linter.unusedVariables false
set_option linter.unusedSectionVars false

instance : DecidableEq Sx := fun x y => decidable_of_iff _ (eqSx_iff x y)
set_option maxHeartbeats 1000000 in
theorem rsame_is (w : World) (a b : Option Addr) (n m ca cb : Nat) (xs ys : List Sx) (hx : SsR w a n xs) (hy : SsR w b m ys) (hn : n ≤ 1000000) (hm : m ≤ 1000000) (B : Bool) (hB : decide (xs = ys) = B) : Calls Try.prog 26 #[.slice a n ca, .slice b m cb] w fun e w' => e = .returned (.bool B) ∧ Below w.heap.size w w' := by
  have hxl : xs.length = n := hx.1
  have hyl : ys.length = m := hy.1
  have HS : Hid (SsR w a n xs ∧ SsR w b m ys ∧ xs.length = n ∧ ys.length = m) := ⟨hx, hy, hxl, hyl⟩
  have q0 : (n : Int) ≤ 1000000 := by omega
  have HB : Hid (decide (xs = ys) = B) := hB
  clear hx hy hB
  go_enter Try.func26, Try.ntmps26
  by_cases hnm : n = m
  · subst hnm
    clear hn hm hxl hyl
    go_wp2
    go_loopw [5] (fun u wr => ∃ i : Nat, u = iv (i : Int) ∧ Hid (i ≤ n ∧ Below w.heap.size w wr ∧ xs.take i = ys.take i)) (fun u _ => n - (intOf u).toNat)
    case atStart => exact ⟨0, rfl, Nat.zero_le _, Below.refl _ _, rfl⟩
    case round =>
      obtain ⟨X, hX⟩ : ∃ X, X = wr := ⟨_, rfl⟩
      subst hX
      obtain ⟨i, rfl, HI⟩ := hrel
      by_cases hi : i < n
      · obtain ⟨s, hs⟩ : ∃ s, xs[i]? = some s := ⟨_, List.getElem?_eq_getElem (by rw [HS.out.2.2.1]; exact hi)⟩
        obtain ⟨t, ht⟩ : ∃ t, ys[i]? = some t := ⟨_, List.getElem?_eq_getElem (by rw [HS.out.2.2.2]; exact hi)⟩
        have HX : Hid (i < n ∧ xs[i]? = some s ∧ ys[i]? = some t) := ⟨hi, hs, ht⟩
        have HV2 : Hid (Sk s ∧ Sk t) := ⟨HS.out.1.2.1 s (List.mem_of_getElem? hs), HS.out.2.1.2.1 t (List.mem_of_getElem? ht)⟩
        obtain ⟨g1, o1, rfl, hg1, hel1⟩ := (HS.out.1.below HI.out.2.1).2.2 (by omega)
        obtain ⟨g2, o2, rfl, hg2, hel2⟩ := (HS.out.2.1.below HI.out.2.1).2.2 (by omega)
        have HR : Hid (X.rangeAt g1 (o1 + i * 35) s.cells ∧ X.rangeAt g2 (o2 + i * 35) t.cells) := ⟨hel1 i s hs, hel2 i t ht⟩
        have HL : Hid (g1 < X.heap.size ∧ g2 < X.heap.size) := ⟨hg1, hg2⟩
        have q1 : (i : Int) < (n : Int) := by omega
        clear hel1 hel2 hg1 hg2 hi hs ht
        go_wp2_with fail
        obtain ⟨B2, hB2⟩ : ∃ B, (!eqSx s t) = B := ⟨_, rfl⟩
        have HB2 := hid_of hB2
        refine sm6 HL HR HV2 HB2 q1 HX.out.1 ?_
        intro V hb
        have HV : Hid (Below w.heap.size w V) := HI.out.2.1.trans (hb.mono HI.out.2.1.size)
        clear hb HR hB2
        by_cases hst : s = t
        · have HE : Hid (xs.take (i + 1) = ys.take (i + 1)) := by
            show _ = _
            rw [List.take_add_one, List.take_add_one, HX.out.2.1, HX.out.2.2, HI.out.2.2, hst]
          have hd : B2 = false := by rw [← HB2.out, (eqSx_iff s t).2 hst]; rfl
          rw [hd]
          clear hd hst
          go_wp2
          refine ⟨⟨i + 1, by simp, HX.out.1, HV.out, HE.out⟩, ?_⟩
          have := HX.out.1; simp [intOf]; omega
        · have hd : B2 = true := by
            rw [← HB2.out]
            cases h9 : eqSx s t with
            | true => exact absurd ((eqSx_iff s t).1 h9) hst
            | false => rfl
          rw [hd]
          have HE : Hid (B = false) := by
            show _ = _
            rw [← HB.out]
            have : xs ≠ ys := fun e => by
              have h1 := HX.out.2.1
              rw [e, HX.out.2.2] at h1
              exact hst (Option.some.inj h1).symm
            simp [this]
          clear hd hst
          go_wp2
          go_ret
          exact ⟨by rw [HE.out]; rfl, HV.out⟩
      · have q1 : ¬ (i : Int) < (n : Int) := by omega
        obtain rfl : i = n := by have := HI.out.1; omega
        have HE : Hid (B = true ∧ Below w.heap.size w X) := by
          refine ⟨?_, HI.out.2.1⟩
          have h1 := HI.out.2.2
          rw [List.take_of_length_le (Nat.le_of_eq HS.out.2.2.1), List.take_of_length_le (Nat.le_of_eq HS.out.2.2.2)] at h1
          rw [← HB.out]
          simp [h1]
        clear HI hi
        go_wp2
        go_ret
        exact ⟨by rw [HE.out.1]; rfl, HE.out.2⟩
  · have q1 : ¬ (n : Int) = (m : Int) := by omega
    have HE : Hid (B = false) := by
      show _ = _
      rw [← HB.out]
      have : xs ≠ ys := fun e => hnm (by rw [← hxl, ← hyl, e])
      simp [this]
    clear hnm hxl hyl hn hm
    go_wp2
    go_ret
    exact ⟨by rw [HE.out]; rfl, Below.refl _ _⟩
end Go.Proofs.Ytjcihaohpbmogaa.Oct

/- Layer 11 (lines): copies of ids and texts. -/
namespace Go.Proofs.Ytjcihaohpbmogaa.Oct
open Go.RowKit
set_option maxRecDepth 100000
set_option linter.unusedSimpArgs false
set_option linter.unusedVariables false
set_option linter.unusedSectionVars false

theorem bs35z (W : World) : (Instr.buildSlice 35 0 #[]).run Try.prog W = .ok (.slice (some ⟨W.heap.size, 0, none⟩) 0 0) (W.alloc (.cells #[] 34)) := by kernel_rfl
theorem bs36z (W : World) : (Instr.buildSlice 36 0 #[]).run Try.prog W = .ok (.slice (some ⟨W.heap.size, 0, none⟩) 0 0) (W.alloc (.cells #[] 9)) := by kernel_rfl
/-- ids copied behind an empty slice -/
theorem cp_ids (W : World) (ty : TypeId) (g0 n c : Nat) (a : Option Addr) (ids : List Vx) (hb : Blk W g0 34 []) (hv : VsR W a n ids) (hn : n ≤ 1000000) :
    ∃ a' c' W', (Builtin.append_ #[35, 35] ty #[.slice (some ⟨g0, 0, none⟩) 0 0, .slice a n c]).run Try.prog W = .ok (.slice a' n c') W' ∧ VsR W' a' n ids ∧ (∀ g off, a' = some ⟨g, off, none⟩ → g0 ≤ g) ∧ W.grownBy W' (some g0) := by
  have ho : OV g0 W (.slice (some ⟨g0, 0, none⟩) 0 0) 0 [] := ⟨⟨rfl, .inr ⟨g0, 0, #[], rfl, Nat.le_refl _, hb, Nat.le_refl _, by unfold maxLen; omega, rfl, rfl⟩⟩, by simp⟩
  obtain ⟨v', W', h1, h2, h3, _⟩ := run_app W g0 ty _ 0 [] a n c ids ho hv (by omega) (Nat.le_of_lt hb.lt)
  rw [Nat.zero_add, List.nil_append] at h2
  obtain ⟨a', c', rfl, h4, _, h5⟩ := h2.read
  refine ⟨a', c', W', h1, h4, fun g off e => ?_, h3⟩
  rcases h5 with h5 | ⟨g', e', h6⟩
  · rw [h5] at e; cases e
  · rw [e'] at e
    cases e
    exact h6
/-- texts copied behind an empty slice -/
theorem cp_texts (W : World) (ty : TypeId) (g0 n c : Nat) (a : Option Addr) (ts : List BA) (hb : Blk W g0 9 []) (hv : TsR W a n ts) (hn : n ≤ 1000000) :
    ∃ a' c' W', (Builtin.append_ #[36, 36] ty #[.slice (some ⟨g0, 0, none⟩) 0 0, .slice a n c]).run Try.prog W = .ok (.slice a' n c') W' ∧ TsR W' a' n ts ∧ W.grownBy W' (some g0) := by
  obtain ⟨i, z, k0, k1, k2, k3, k4⟩ := one36.inf
  by_cases hp : 0 < n
  · obtain ⟨g, off, rfl, hg, hel⟩ := hv.2 hp
    have ho : W.ownsRow g0 9 1 (.slice (some ⟨g0, 0, none⟩) 0 0) 0 [] := ⟨rfl, .inr ⟨g0, 0, #[], rfl, Nat.le_refl _, hb, Nat.le_refl _, by unfold maxLen; omega, rfl, rfl⟩⟩
    obtain ⟨v', W', h1, h2, h3, _⟩ := run_append_own (P := Try.prog) W g0 36 ty 9 i z 1 16 Try.underlying36 k0 k1 k2 k3 k4 (by omega) _ 0 [] ho ⟨g, off, none⟩ n c (strs ts) (by unfold strs; rw [List.length_map, hv.1, Nat.mul_one]) (fun j u hj => by
      rw [Addr.add_lit]
      unfold strs at hj
      rw [List.getElem?_map] at hj
      obtain ⟨s, hs, rfl⟩ := Option.map_eq_some_iff.1 hj
      exact hel j s hs) (fun u hu => by unfold strs at hu; obtain ⟨s, _, rfl⟩ := List.mem_map.1 hu; rfl) (by unfold maxLen; omega) (by omega) (Nat.le_of_lt hb.lt)
    rw [Nat.zero_add, List.nil_append] at h2
    rcases h2.2 with ⟨_, h9⟩ | ⟨g', cap, cur, rfl, _, h4, _⟩
    · omega
    · refine ⟨some ⟨g', 0, none⟩, cap, W', h1, ⟨hv.1, fun _ => ⟨g', 0, rfl, (Array.getElem?_eq_some_iff.1 h4).1, fun j s hs => ?_⟩⟩, h3⟩
      have := h2.cells (g := g') rfl j (.string s) (by unfold strs; rw [List.getElem?_map, hs]; rfl)
      rw [Addr.add_lit] at this
      exact this
  · obtain rfl : n = 0 := by omega
    refine ⟨_, _, W, run_append_zero W 36 ty 9 i Try.underlying36 k0 _ a 0 0 c (Nat.le_refl _), ⟨hv.1, fun h => absurd h (by omega)⟩, World.grownBy.refl _ _⟩
end Go.Proofs.Ytjcihaohpbmogaa.Oct
