/-
  Layer 15 (people): the document's people: last, AddUser, AddOrg.
-/
import Derived.Test.YtfickhhfhdhcbaaRfd
namespace Go.Proofs.Ytfickhhfhdhcbaa.Oct
open Go.RowKit
set_option linter.unusedSimpArgs false
set_option linter.unusedVariables false

theorem rret30u {R : Ending → World → Prop} {fn : Func} {pt u : Tmp} {a : Act} {w : World} {g : Nat} {X : List Value} (hr : fn.results = #[.cell pt 30, .tmp u]) (hd : a.defers = []) (hp : a.tmps.getD pt undef = .pointer (some ⟨g, 0, none⟩)) (hl : X.length = 3)
    (hb : Blk w g 30 X) (hR : R (.returned (.tuple #[.agg X.toArray, a.tmps.getD u undef])) w) : bodyPost Try.prog fn R .ret a w := by
  have hl := run_loadVar_mid (P := Try.prog) w g 0 30 X _ (by have := hb.range 0 3; rwa [List.drop_zero, List.take_of_length_le (by omega)] at this) Try.underlying30 rfl (by rw [hl]; exact size30)
  refine bodyPost_ret (v := .tuple #[.agg X.toArray, a.tmps.getD u undef]) ?_ hd hR
  rw [results_cell_tmp hr, hp]
  simp [asAddr, hl, Result.andThen]
/-- what a call of the document's people leaves and answers -/
def Ro (w : World) (q : Rp × Int) (e : Ending) (w' : World) : Prop := ∃ uv ov fv, e = .returned (.tuple #[.agg #[uv, ov, fv], iv q.2]) ∧ Hid (RPt w' uv ov fv q.1 ∧ Below w.heap.size w w')
theorem rname_is (x : Hs) (hl : x.length ≤ 140737488355328) (w : World) : Calls Try.prog 60 #[hv x] w fun e w' => e = .returned (.bool (isName x)) ∧ Below w.heap.size w w' := (refName_is ⟨x.toArray⟩ w (by simp [ByteArray.size]; exact hl)).mono (by
  rintro e w' ⟨rfl, rfl⟩
  exact ⟨rfl, Below.refl _ _⟩)
theorem rhas_b {w : World} {v : Value} {n : Nat} {l : List Hs} (h : SV w v n 1 (l.map hv)) (hn : n ≤ 1000) (s : Hs) (c : Bool) (hc : decide (s ∈ l) = c) : Calls Try.prog 61 #[v, hv s] w fun e w' => e = .returned (.bool c) ∧ Below w.heap.size w w' := (rhas_is h hn s).mono (by
  rintro e w' ⟨rfl, rfl⟩
  exact ⟨by rw [hc], Below.refl _ _⟩)
/-- how many owners, by the facts; is a user the only one? -/
def ownF (F : List Fc) (o : Hs) : Nat := (memF F o).countP (fun u => roleF F o u == 2)
def lastF (F : List Fc) (o u : Hs) : Bool := roleF F o u == 2 && ownF F o == 1
set_option maxRecDepth 100000 in
set_option maxHeartbeats 4000000 in
theorem row6 {Q : Exit → Act → World → Prop} {x0 x3 x4 x6 x8 x9 x10 x11 x12 x13 x14 x15 x16 x17 x18 x19 x20 x21 x22 x23 x24 x25 x26 x27 : Value} {ds : List Deferred} {A : World} {b g n cm i nu uc no oc m c : Nat} {ua oa a : Option Addr} {so sy : ByteArray} {r : Int}
    (HB2 : Hid (Blk A b 30 [.slice ua nu uc, .slice oa no oc, .slice a m c])) (HIX : Hid ((i : Int) < (n : Int) ∧ i < n)) (HCY : Hid (A.cell? ⟨g, i, none⟩ = some (.string sy) ∧ g < A.heap.size)) (HRO : Hid (∀ V, Below A.heap.size A V → Calls Try.prog 46 #[.agg #[.slice ua nu uc, .slice oa no oc, .slice a m c], .string so, .string sy] V fun e V2 => e = .returned (iv r) ∧ Below V.heap.size V V2))
    (hQ : ∀ V1, Below A.heap.size A V1 → Q .normal { tmps := #[x0, .string so, .pointer (some ⟨b, 0, none⟩), x3, x4, .slice (some ⟨g, 0, none⟩) n cm, x6, iv (i : Int), x8, x9, x10, x11, x12, x13, x14, x15, x16, .agg [.slice ua nu uc, .slice oa no oc, .slice a m c].toArray, .string so, .slice (some ⟨g, 0, none⟩) n cm, iv (i : Int), .pointer (some ⟨g, i, none⟩), .string sy, iv r, .bool (r == 2), x25, x26, x27], defers := ds } V1) :
    (Code.region 6 #[{ dst := some 17, op := Op.load 30 (Operand.tmp 2), type := 30, pos := "ref.go:101", after := #[], guard := none }, { dst := some 18, op := Op.move (Operand.tmp 1), type := 9, pos := "ref.go:101", after := #[], guard := none }, { dst := some 19, op := Op.move (Operand.tmp 5), type := 27, pos := "ref.go:101", after := #[], guard := none }, { dst := some 20, op := Op.move (Operand.tmp 7), type := 3, pos := "ref.go:101", after := #[], guard := none }, { dst := some 21, op := Op.indexAddr 27 (Operand.tmp 19) (Operand.tmp 20), type := 0, pos := "ref.go:101", after := #[{ on := 2, ground := Ground.data }, { on := 3, ground := Ground.data }], guard := none }, { dst := some 22, op := Op.load 9 (Operand.tmp 21), type := 9, pos := "ref.go:101", after := #[{ on := 4, ground := Ground.data }], guard := none }, { dst := some 23, op := Op.call { callee := Callee.value (Operand.func 46), args := #[Operand.tmp 17, Operand.tmp 18, Operand.tmp 22], argTypes := #[30, 9, 9] }, type := 3, pos := "ref.go:101", after := #[{ on := 0, ground := Ground.data }, { on := 1, ground := Ground.data }, { on := 5, ground := Ground.data }], guard := none }, { dst := some 24, op := Op.binOp BinOp.eql 3 (Operand.tmp 23) (Operand.const (Value.int IntKind.i64 2)) 3, type := 4, pos := "ref.go:101", after := #[{ on := 6, ground := Ground.data }], guard := none }] true).wp Try.prog Q { tmps := #[x0, .string so, .pointer (some ⟨b, 0, none⟩), x3, x4, .slice (some ⟨g, 0, none⟩) n cm, x6, iv (i : Int), x8, x9, x10, x11, x12, x13, x14, x15, x16, x17, x18, x19, x20, x21, x22, x23, x24, x25, x26, x27], defers := ds } A := by
  refine Code.wp_mono (Q := fun x a' w' => match x with | .normal => Q .normal a' w' | _ => False) (by intro x a' w' h; cases x <;> first | exact h | exact h.elim) ?_
  refine wp_region_held (S := fun V => Below A.heap.size A V) (by kernel_rfl) ?_
  have hS0 : Hid (Below A.heap.size A A.drew) := below_drew0 A
  change wpAnyH Try.prog .any _ _ (fun V => Below A.heap.size A V) 8 (Array.replicate 8 false) _ A.drew
  obtain ⟨V0, hV0⟩ : ∃ V0, A.drew = V0 := ⟨_, rfl⟩
  rw [hV0]
  rw [hV0] at hS0
  clear hV0
  refine wpAnyH_take (i := 0) (oi := { dst := some 17, op := Op.load 30 (Operand.tmp 2), type := 30, pos := "ref.go:101", after := #[], guard := none }) (v := .agg [.slice ua nu uc, .slice oa no oc, .slice a m c].toArray) rfl (by kernel_rfl) (by kernel_rfl) (by kernel_rfl) (fun _ _ _ h => h.elim) (yieldsIf_load_mid (by rfl) _ _ rfl _ _ rfl ([.slice ua nu uc, .slice oa no oc, .slice a m c]) _ (fun V hV => rangeAt_same ((by have := HB2.out.range 0 3; simpa using this)) ((show Below A.heap.size A V from hV).block _ (HB2.out.lt))) Try.underlying30 rfl (size30)) hS0.out ?_
  simp only [Act.put, List.setIfInBounds_toArray, List.set_cons_zero, List.set_cons_succ]
  refine wpAnyH_take (i := 1) (oi := { dst := some 18, op := Op.move (Operand.tmp 1), type := 9, pos := "ref.go:101", after := #[], guard := none }) (v := .string so) rfl (by kernel_rfl) (by kernel_rfl) (by kernel_rfl) (fun _ _ _ h => h.elim) (Or.inl ⟨by rfl, ?y1⟩) hS0.out ?_
  case y1 =>
    intro V hV
    go_simp
  simp only [Act.put, List.setIfInBounds_toArray, List.set_cons_zero, List.set_cons_succ]
  refine wpAnyH_take (i := 2) (oi := { dst := some 19, op := Op.move (Operand.tmp 5), type := 27, pos := "ref.go:101", after := #[], guard := none }) (v := .slice (some ⟨g, 0, none⟩) n cm) rfl (by kernel_rfl) (by kernel_rfl) (by kernel_rfl) (fun _ _ _ h => h.elim) (Or.inl ⟨by rfl, ?y2⟩) hS0.out ?_
  case y2 =>
    intro V hV
    go_simp
  simp only [Act.put, List.setIfInBounds_toArray, List.set_cons_zero, List.set_cons_succ]
  refine wpAnyH_take (i := 3) (oi := { dst := some 20, op := Op.move (Operand.tmp 7), type := 3, pos := "ref.go:101", after := #[], guard := none }) (v := iv (i : Int)) rfl (by kernel_rfl) (by kernel_rfl) (by kernel_rfl) (fun _ _ _ h => h.elim) (Or.inl ⟨by rfl, ?y3⟩) hS0.out ?_
  case y3 =>
    intro V hV
    go_simp
  simp only [Act.put, List.setIfInBounds_toArray, List.set_cons_zero, List.set_cons_succ]
  refine wpAnyH_take (i := 4) (oi := { dst := some 21, op := Op.indexAddr 27 (Operand.tmp 19) (Operand.tmp 20), type := 0, pos := "ref.go:101", after := #[{ on := 2, ground := Ground.data }, { on := 3, ground := Ground.data }], guard := none }) (v := .pointer (some ⟨g, i, none⟩)) rfl (by kernel_rfl) (by kernel_rfl) (by kernel_rfl) (fun _ _ _ h => h.elim) (Or.inl ⟨by rfl, ?y4⟩) hS0.out ?_
  case y4 =>
    intro V hV
    have h1 := HIX.out.1
    have h2 := HIX.out.2
    go_simp
  simp only [Act.put, List.setIfInBounds_toArray, List.set_cons_zero, List.set_cons_succ]
  refine wpAnyH_take (i := 5) (oi := { dst := some 22, op := Op.load 9 (Operand.tmp 21), type := 9, pos := "ref.go:101", after := #[{ on := 4, ground := Ground.data }], guard := none }) (v := .string sy) rfl (by kernel_rfl) (by kernel_rfl) (by kernel_rfl) (fun _ _ _ h => h.elim) (Or.inl ⟨by rfl, ?y5⟩) hS0.out ?_
  case y5 =>
    intro V hV
    have hc : V.cell? ⟨g, i, none⟩ = some (.string sy) := ((show Below A.heap.size A V from hV).cell (p := ⟨g, i, none⟩) (HCY.out.2)).trans HCY.out.1
    go_simp
  simp only [Act.put, List.setIfInBounds_toArray, List.set_cons_zero, List.set_cons_succ]
  refine wpAnyH_ready (rs := [6]) (by kernel_rfl) (by simp) (AllReadyH.cons (i := 6) (o := { dst := some 23, op := Op.call { callee := Callee.value (Operand.func 46), args := #[Operand.tmp 17, Operand.tmp 18, Operand.tmp 22], argTypes := #[30, 9, 9] }, type := 3, pos := "ref.go:101", after := #[{ on := 0, ground := Ground.data }, { on := 1, ground := Ground.data }, { on := 5, ground := Ground.data }], guard := none }) rfl ?_ AllReadyH.nil)
  · intro K1 hK1
    rw [if_pos (by rfl)]
    have HC1 := (HRO.out V0 hS0.out)
    go_wp2_with fail
    refine HC1.mono ?_
    rintro e V1 ⟨rfl, hb1⟩
    dsimp only
    clear HC1
    have hS1 : Hid (Below A.heap.size A V1) := hS0.out.trans ((hb1).mono hS0.out.size)
    clear hb1
    refine hK1.out _ _ hS1.out ?_
    clear hK1
    intro _
    try simp only [Act.put, List.setIfInBounds_toArray, List.set_cons_zero, List.set_cons_succ]
    refine wpAnyH_take (i := 7) (oi := { dst := some 24, op := Op.binOp BinOp.eql 3 (Operand.tmp 23) (Operand.const (Value.int IntKind.i64 2)) 3, type := 4, pos := "ref.go:101", after := #[{ on := 6, ground := Ground.data }], guard := none }) (v := .bool (r == 2)) rfl (by kernel_rfl) (by kernel_rfl) (by kernel_rfl) (fun _ _ _ h => h.elim) (Or.inl ⟨by rfl, ?y6⟩) hS1.out ?_
    case y6 =>
      intro V hV
      go_simp
    simp only [Act.put, List.setIfInBounds_toArray, List.set_cons_zero, List.set_cons_succ]
    refine wpAnyH_done (by kernel_rfl) ?_ _
    exact hQ V1 hS1.out
#print axioms row6
set_option maxRecDepth 100000 in
set_option maxHeartbeats 4000000 in
theorem rowners_is {w : World} {uv ov fv : Value} {R : Rp} (h : RPt w uv ov fv R) (hF : R.F.length ≤ 990) (o : Hs) : Calls Try.prog 74 #[.agg #[uv, ov, fv], hv o] w (fun e w' => e = .returned (iv (ownF R.F o : Int)) ∧ Below w.heap.size w w') := by
  obtain ⟨m, hm⟩ : ∃ m, R.F.length = m := ⟨_, rfl⟩
  obtain ⟨nu, hnu⟩ : ∃ m, R.U.length = m := ⟨_, rfl⟩
  obtain ⟨no, hno⟩ : ∃ m, R.O.length = m := ⟨_, rfl⟩
  obtain ⟨ua, uc, rfl, _⟩ := h.u
  obtain ⟨oa, oc, rfl, _⟩ := h.o
  obtain ⟨a, c, rfl, _⟩ := h.f
  rw [hm, hnu, hno] at h ⊢
  obtain ⟨so, hso, hlo, hqo⟩ := bs_is o
  have HS : Hid (so.toList = o ∧ hv o = .string so ∧ True) := ⟨hlo, hso, trivial⟩
  have hz30 := zero30
  obtain ⟨b, hb⟩ : ∃ b, w.heap.size = b := ⟨_, rfl⟩
  obtain ⟨A, hA⟩ : ∃ A, w.alloc (.cells #[.slice ua nu uc, .slice oa no oc, .slice a m c] 30) = A := ⟨_, rfl⟩
  have hB : Below w.heap.size w A := by rw [← hA]; exact below_al _ _
  have h2 : Blk A b 30 [.slice ua nu uc, .slice oa no oc, .slice a m c] := by rw [← hA, ← hb]; exact Blk.new w _ _
  have HA0 : Hid (RPt w (.slice ua nu uc) (.slice oa no oc) (.slice a m c) R) := h
  have HA : Hid (Below w.heap.size w A ∧ Blk A b 30 [.slice ua nu uc, .slice oa no oc, .slice a m c] ∧ RPt A (.slice ua nu uc) (.slice oa no oc) (.slice a m c) R ∧ True) := ⟨hB, h2, h.below hB, trivial⟩
  have HN : Hid (R.F.length = m ∧ R.U.length = nu ∧ R.O.length = no ∧ m ≤ 990 ∧ w.heap.size = b) := ⟨hm, hnu, hno, by omega, hb⟩
  have qu : (nu : Int) ≤ 1000 := by have := h.nu; omega
  have qo : (no : Int) ≤ 1000 := by have := h.no; omega
  have qm : (m : Int) ≤ 990 := by omega
  rw [hso]
  clear h hF hm hnu hno hB h2 hlo hqo
  go_enter Try.func74, Try.ntmps74
  have HC := rmembers_is HA.out.2.2.1 (by have := HN.out; omega) o
  rw [hso] at HC
  obtain ⟨L, hL⟩ : ∃ L, memF R.F o = L := ⟨_, rfl⟩
  rw [hL] at HC
  have HLL : Hid (memF R.F o = L) := hL
  go_wp2_with (with_reducible change wpList _ _ _ ({ dst := some 8, op := _, type := _, pos := _, after := _, guard := _ } :: _) _ _; refine Hid.out ?_)
  show wpList _ _ _ _ _ _
  refine wpList_load_row rfl 30 (.tmp 2) rfl b rfl 30 #[.slice ua nu uc, .slice oa no oc, .slice a m c] (0, 0) _ HA.out.2.1 Try.underlying30 rfl size30 ?_
  simp only [Act.put, List.setIfInBounds_toArray, List.set_cons_zero, List.set_cons_succ]
  go_wp2_with fail
  refine HC.mono ?_
  rintro e V1 ⟨v1, rfl, hs1, hb1⟩
  obtain ⟨ln, hln⟩ : ∃ n, L.length = n := ⟨_, rfl⟩
  rw [hln] at hs1
  have hs1' := hs1
  obtain ⟨la, lc, hv1, _⟩ := hs1
  subst hv1
  have H1 : Hid (Below w.heap.size w V1 ∧ Blk V1 b 30 [.slice ua nu uc, .slice oa no oc, .slice a m c] ∧ RPt V1 (.slice ua nu uc) (.slice oa no oc) (.slice a m c) R ∧ SV V1 (.slice la ln lc) ln 1 (L.map hv) ∧ ln ≤ 990) := ⟨below_tr HA.out.1 hb1, HA.out.2.1.below hb1 HA.out.2.1.lt, HA.out.2.2.1.below hb1, hs1', by have h1 := memF_len R.F o; have h2 := HN.out; rw [hL] at h1; omega⟩
  have ql : (ln : Int) ≤ 990 := by have := H1.out.2.2.2.2; omega
  clear HC hb1 hL hln hA hb
  go_wp2
  go_loopw [7, 6] (fun u v W => ∃ i k : Nat, u = iv i ∧ v = iv k ∧ Hid (i ≤ ln ∧ k ≤ i ∧ Below V1.heap.size V1 W ∧ k = (L.take i).countP (fun u => roleF R.F o u == 2))) (fun u _ _ => ln - (intOf u).toNat)
  case atStart => exact ⟨0, 0, rfl, rfl, Nat.zero_le _, Nat.le_refl _, Below.refl _ _, by simp⟩
  case round =>
    obtain ⟨i, k, rfl, rfl, HI⟩ := hrel
    have q9 : (k : Int) ≤ (i : Int) := by have := HI.out.2.1; omega
    by_cases hi : i = ln
    · have q1 : (ln : Int) ≤ (i : Int) := by omega
      have HE : Hid (ownF R.F o = k ∧ Below w.heap.size w wr) := by
        refine ⟨?_, below_tr H1.out.1 HI.out.2.2.1⟩
        have h1 := HI.out.2.2.2
        rw [List.take_of_length_le (by have := (sv_name H1.out.2.2.2.1).1; omega)] at h1
        unfold ownF
        rw [HLL.out, h1]
      clear hi
      go_wp2
      go_ret
      exact ⟨by rw [HE.out.1]; rfl, HE.out.2⟩
    · have HQ : Hid (i < ln) := by have := HI.out.1; show _ < _; omega
      have q1 : (i : Int) < (ln : Int) := by have := HQ.out; omega
      have q2 : i < ln := HQ.out
      obtain ⟨g, c', y, hlv, hg, hy, hc⟩ := (sv_name (H1.out.2.2.2.1.below HI.out.2.2.1)).2 i q2
      cases hlv
      obtain ⟨sy, hsy, hly, _⟩ := bs_is y
      rw [hsy] at hc
      obtain ⟨r, hr⟩ : ∃ r, roleF R.F o y = r := ⟨_, rfl⟩
      have HB2 : Hid (Blk wr b 30 [.slice ua nu uc, .slice oa no oc, .slice a m c]) := H1.out.2.1.below HI.out.2.2.1 H1.out.2.1.lt
      have HIX : Hid ((i : Int) < (ln : Int) ∧ i < ln) := ⟨q1, q2⟩
      have HCY : Hid (wr.cell? ⟨g, i, none⟩ = some (.string sy) ∧ g < wr.heap.size) := ⟨hc, hg⟩
      have HRO : Hid (∀ V, Below wr.heap.size wr V → Calls Try.prog 46 #[.agg #[.slice ua nu uc, .slice oa no oc, .slice a m c], .string so, .string sy] V fun e V2 => e = .returned (iv r) ∧ Below V.heap.size V V2) := fun V hV => by
        have h1 := rrole_is (H1.out.2.2.1.below (below_tr HI.out.2.2.1 hV)) o y
        rw [HS.out.2.1, hsy, hr] at h1
        exact h1
      have HT : Hid (∀ k', k' = k + (if r == 2 then 1 else 0) → k' = (L.take (i + 1)).countP (fun u => roleF R.F o u == 2)) := fun k' e => by
        rw [take_snoc hy, List.countP_append, ← HI.out.2.2.2, e]
        simp [List.countP_cons, hr]
      clear hi hy hsy hly hr hc hg
      go_wp2_with fail
      refine row6 HB2 HIX HCY HRO ?_
      intro V3 hV3
      have HV3 : Hid (Below V1.heap.size V1 V3) := below_tr HI.out.2.2.1 hV3
      clear hV3
      by_cases h2 : r = 2
      · have b2 : (r == 2) = true := by simp [h2]
        have HE : Hid (i + 1 ≤ ln ∧ k + 1 ≤ i + 1 ∧ Below V1.heap.size V1 V3 ∧ k + 1 = (L.take (i + 1)).countP (fun u => roleF R.F o u == 2)) := ⟨HQ.out, by have := HI.out.2.1; omega, HV3.out, HT.out _ (by rw [b2]; rfl)⟩
        clear h2
        go_wp2
        go_roundw
        case rel => exact ⟨i + 1, k + 1, by simp, by simp, HE.out⟩
        case measure =>
          have := HQ.out
          simp only [intOf]
          omega
      · have b2 : (r == 2) = false := by simpa using h2
        have HE : Hid (i + 1 ≤ ln ∧ k ≤ i + 1 ∧ Below V1.heap.size V1 V3 ∧ k = (L.take (i + 1)).countP (fun u => roleF R.F o u == 2)) := ⟨HQ.out, by have := HI.out.2.1; omega, HV3.out, HT.out _ (by rw [b2]; rfl)⟩
        clear h2
        go_wp2
        go_roundw
        case rel => exact ⟨i + 1, k, by simp, rfl, HE.out⟩
        case measure =>
          have := HQ.out
          simp only [intOf]
          omega
#print axioms rowners_is
set_option maxRecDepth 100000 in
set_option maxHeartbeats 4000000 in
theorem rlast_is {w : World} {uv ov fv : Value} {R : Rp} (h : RPt w uv ov fv R) (hF : R.F.length ≤ 990) (o : Hs) (u : Hs) : Calls Try.prog 63 #[.agg #[uv, ov, fv], hv o, hv u] w (fun e w' => e = .returned (.bool (lastF R.F o u)) ∧ Below w.heap.size w w') := by
  obtain ⟨m, hm⟩ : ∃ m, R.F.length = m := ⟨_, rfl⟩
  obtain ⟨nu, hnu⟩ : ∃ m, R.U.length = m := ⟨_, rfl⟩
  obtain ⟨no, hno⟩ : ∃ m, R.O.length = m := ⟨_, rfl⟩
  obtain ⟨ua, uc, rfl, _⟩ := h.u
  obtain ⟨oa, oc, rfl, _⟩ := h.o
  obtain ⟨a, c, rfl, _⟩ := h.f
  rw [hm, hnu, hno] at h ⊢
  obtain ⟨so, hso, hlo, hqo⟩ := bs_is o
  obtain ⟨su, hsu, hlu, hqu⟩ := bs_is u
  have HS : Hid (so.toList = o ∧ hv o = .string so ∧ su.toList = u ∧ hv u = .string su ∧ True) := ⟨hlo, hso, hlu, hsu, trivial⟩
  have hz30 := zero30
  obtain ⟨b, hb⟩ : ∃ b, w.heap.size = b := ⟨_, rfl⟩
  obtain ⟨A, hA⟩ : ∃ A, w.alloc (.cells #[.slice ua nu uc, .slice oa no oc, .slice a m c] 30) = A := ⟨_, rfl⟩
  have hB : Below w.heap.size w A := by rw [← hA]; exact below_al _ _
  have h2 : Blk A b 30 [.slice ua nu uc, .slice oa no oc, .slice a m c] := by rw [← hA, ← hb]; exact Blk.new w _ _
  have HA0 : Hid (RPt w (.slice ua nu uc) (.slice oa no oc) (.slice a m c) R) := h
  have HA : Hid (Below w.heap.size w A ∧ Blk A b 30 [.slice ua nu uc, .slice oa no oc, .slice a m c] ∧ RPt A (.slice ua nu uc) (.slice oa no oc) (.slice a m c) R ∧ True) := ⟨hB, h2, h.below hB, trivial⟩
  have HN : Hid (R.F.length = m ∧ R.U.length = nu ∧ R.O.length = no ∧ m ≤ 990 ∧ w.heap.size = b) := ⟨hm, hnu, hno, by omega, hb⟩
  have qu : (nu : Int) ≤ 1000 := by have := h.nu; omega
  have qo : (no : Int) ≤ 1000 := by have := h.no; omega
  have qm : (m : Int) ≤ 990 := by omega
  rw [hso, hsu]
  clear h hF hm hnu hno hB h2 hlo hqo hlu hqu
  go_enter Try.func63, Try.ntmps63
  obtain ⟨r, hr⟩ : ∃ r, roleF R.F o u = r := ⟨_, rfl⟩
  obtain ⟨k, hk⟩ : ∃ k, ownF R.F o = k := ⟨_, rfl⟩
  obtain ⟨z, hz⟩ : ∃ z, lastF R.F o u = z := ⟨_, rfl⟩
  have HZ : Hid ((r == 2 && k == 1) = z) := by show _ = _; rw [← hz]; unfold lastF; rw [hr, hk]
  rw [hz]
  have HC := rrole_is HA.out.2.2.1 o u
  rw [hso, hsu, hr] at HC
  clear hz
  go_wp2_with (with_reducible change wpList _ _ _ ({ dst := some 7, op := _, type := _, pos := _, after := _, guard := _ } :: _) _ _; refine Hid.out ?_)
  show wpList _ _ _ _ _ _
  refine wpList_load_row rfl 30 (.tmp 3) rfl b rfl 30 #[.slice ua nu uc, .slice oa no oc, .slice a m c] (0, 0) _ HA.out.2.1 Try.underlying30 rfl size30 ?_
  simp only [Act.put, List.setIfInBounds_toArray, List.set_cons_zero, List.set_cons_succ]
  go_wp2_with fail
  refine HC.mono ?_
  rintro e V1 ⟨rfl, hb1⟩
  have HV1 : Hid (Below w.heap.size w V1 ∧ Blk V1 b 30 [.slice ua nu uc, .slice oa no oc, .slice a m c] ∧ RPt V1 (.slice ua nu uc) (.slice oa no oc) (.slice a m c) R ∧ True) := ⟨below_tr HA.out.1 hb1, HA.out.2.1.below hb1 HA.out.2.1.lt, HA.out.2.2.1.below hb1, trivial⟩
  clear HC hb1 hr
  by_cases h2 : r = 2
  · have b2 : (r == 2) = true := by simp [h2]
    have HC := rowners_is HV1.out.2.2.1 (by have := HN.out; omega) o
    rw [hso, hk] at HC
    clear h2 hA hb
    go_wp2_with (with_reducible change wpList _ _ _ ({ dst := some 13, op := _, type := _, pos := _, after := _, guard := _ } :: _) _ _; refine Hid.out ?_)
    show wpList _ _ _ _ _ _
    refine wpList_load_want rfl 30 (.tmp 3) rfl b 0 rfl [.slice ua nu uc, .slice oa no oc, .slice a m c] _ (by have := HV1.out.2.1.range 0 3; simpa using this) Try.underlying30 rfl size30 ?_
    simp only [Act.put, List.setIfInBounds_toArray, List.set_cons_zero, List.set_cons_succ]
    go_wp2_with fail
    refine HC.mono ?_
    rintro e V2 ⟨rfl, hb2⟩
    have HE : Hid (Below w.heap.size w V2) := below_tr HV1.out.1 hb2
    clear HC hb2 hk
    by_cases h1 : k = 1
    · have b1 : ((k : Int) == 1) = true := by simp [h1]
      have HF : Hid (z = true) := by show _ = _; rw [← HZ.out, b2]; simp [h1]
      clear h1
      go_wp2
      go_ret
      exact ⟨by rw [HF.out]; rfl, HE.out⟩
    · have b1 : ((k : Int) == 1) = false := by simp; omega
      have HF : Hid (z = false) := by show _ = _; rw [← HZ.out, b2]; simp [h1]
      clear h1
      go_wp2
      go_ret
      exact ⟨by rw [HF.out]; rfl, HE.out⟩
  · have b2 : (r == 2) = false := by simpa using h2
    have HF : Hid (z = false) := by show _ = _; rw [← HZ.out, b2]; rfl
    have HE : Hid (Below w.heap.size w V1) := HV1.out.1
    clear h2
    go_wp2
    go_ret
    exact ⟨by rw [HF.out]; rfl, HE.out⟩
#print axioms rlast_is
end Go.Proofs.Ytfickhhfhdhcbaa.Oct
