/-
  Layer 24 (reply): Print of both.
-/
import Derived.Test.YtkpepfeiimphpaaDoorHd
namespace Go.Proofs.YtkpepfeiimphpaaDoor.Oct
open Go.RowKit
set_option linter.unusedSimpArgs false
set_option linter.unusedVariables false

theorem size23 : (Tryd.prog.info? 23).map (·.size) = some 4 := by kernel_rfl
theorem Blk.range0 {w : World} {b : Nat} {t : TypeId} {L : List Value} (h : Blk w b t L) : w.rangeAt b 0 L := fun j v hj => by rw [Nat.zero_add]; exact h.cell hj
theorem rangeAt_same {w w' : World} {b o : Nat} {cs : List Value} (h : w.rangeAt b o cs) (hs : w'.heap[b]? = w.heap[b]?) : w'.rangeAt b o cs :=
  fun j v hj => (World.cell?_of_block (a := ⟨b, o + j, none⟩) hs).trans (h j v hj)
/-- what is printed, and the error -/
def prL (st : Int) (ty bo : BA) (cl : Bool) : List UInt8 × Int := if st < 100 ∨ 999 < st ∨ typB ty.data.toList = false then ([], 2) else if 65536 < bo.size then ([], 3) else (headL st.toNat ty.data.toList bo.size cl ++ bo.data.toList, 0)
set_option maxRecDepth 100000 in
set_option maxHeartbeats 4000000 in
theorem pr5 {Q : Exit → Act → World → Prop} {x0 x2 x3 x4 x5 x6 x7 x8 x9 x10 x11 x12 x13 x14 x15 x16 x17 x18 x19 x20 x21 x22 x23 x24 x25 x26 x27 x28 : Value} {ds : List Deferred} {A : World} {b st : Nat} {ty bo : BA} {cl : Bool} {L : List UInt8}
    (HB : Hid (Blk A b 23 [iv (st : Int), .string ty, .string bo, .bool cl])) (HBO : Hid (bo.size ≤ 65536)) (HHD : Hid (∀ V, Below A.heap.size A V → Calls Tryd.prog 15 #[.agg #[iv (st : Int), .string ty, .string bo, .bool cl]] V fun e V2 => ∃ s : BA, e = .returned (.string s) ∧ Hid (s.data.toList = L ∧ s.size ≤ 90000) ∧ Below V.heap.size V V2))
    (hQ : ∀ V1 (s : BA), Hid (s.data.toList = L ∧ s.size ≤ 90000) → Below A.heap.size A V1 → Q .normal { tmps := #[x0, .pointer (some ⟨b, 0, none⟩), .string (s ++ bo), iv 0, x4, x5, x6, x7, x8, x9, x10, x11, x12, x13, x14, x15, x16, x17, x18, x19, x20, x21, x22, x23, .agg [iv (st : Int), .string ty, .string bo, .bool cl].toArray, .string s, .pointer (some ⟨b, 2, none⟩), .string bo, .string (s ++ bo)], defers := ds } V1) :
    (Code.region 5 #[{ dst := some 24, op := Op.load 23 (Operand.tmp 1), type := 23, pos := "reply.go:62", after := #[], guard := none }, { dst := some 25, op := Op.call { callee := Callee.value (Operand.func 15), args := #[Operand.tmp 24], argTypes := #[23] }, type := 9, pos := "reply.go:62", after := #[{ on := 0, ground := Ground.data }], guard := none }, { dst := some 26, op := Op.fieldAddr 23 (Operand.tmp 1) 2, type := 0, pos := "reply.go:62", after := #[], guard := none }, { dst := some 27, op := Op.load 9 (Operand.tmp 26), type := 9, pos := "reply.go:62", after := #[{ on := 2, ground := Ground.data }], guard := none }, { dst := some 28, op := Op.binOp BinOp.add 9 (Operand.tmp 25) (Operand.tmp 27) 9, type := 9, pos := "reply.go:62", after := #[{ on := 1, ground := Ground.data }, { on := 3, ground := Ground.data }], guard := none }, { dst := some 2, op := Op.assign (Operand.tmp 28), type := 9, pos := "reply.go:62", after := #[{ on := 4, ground := Ground.data }, { on := 1, ground := Ground.chain }, { on := 0, ground := Ground.phase }, { on := 1, ground := Ground.phase }, { on := 2, ground := Ground.phase }, { on := 3, ground := Ground.phase }, { on := 4, ground := Ground.phase }], guard := none }, { dst := some 3, op := Op.assign (Operand.const (Value.int IntKind.i64 0)), type := 25, pos := "reply.go:62", after := #[{ on := 5, ground := Ground.chain }, { on := 0, ground := Ground.phase }, { on := 1, ground := Ground.phase }, { on := 2, ground := Ground.phase }, { on := 3, ground := Ground.phase }, { on := 4, ground := Ground.phase }, { on := 5, ground := Ground.phase }], guard := none }] true).wp Tryd.prog Q { tmps := #[x0, .pointer (some ⟨b, 0, none⟩), x2, x3, x4, x5, x6, x7, x8, x9, x10, x11, x12, x13, x14, x15, x16, x17, x18, x19, x20, x21, x22, x23, x24, x25, x26, x27, x28], defers := ds } A := by
  refine Code.wp_mono (Q := fun x a' w' => match x with | .normal => Q .normal a' w' | _ => False) (by intro x a' w' h; cases x <;> first | exact h | exact h.elim) ?_
  refine wp_region_held (S := fun V => Below A.heap.size A V) (by kernel_rfl) ?_
  have hS0 : Hid (Below A.heap.size A A.drew) := below_drew0 A
  change wpAnyH Tryd.prog .any _ _ (fun V => Below A.heap.size A V) 7 (Array.replicate 7 false) _ A.drew
  obtain ⟨V0, hV0⟩ : ∃ V0, A.drew = V0 := ⟨_, rfl⟩
  rw [hV0]
  rw [hV0] at hS0
  clear hV0
  refine wpAnyH_take (i := 0) (oi := { dst := some 24, op := Op.load 23 (Operand.tmp 1), type := 23, pos := "reply.go:62", after := #[], guard := none }) (v := .agg [iv (st : Int), .string ty, .string bo, .bool cl].toArray) rfl (by kernel_rfl) (by kernel_rfl) (by kernel_rfl) (fun _ _ _ h => h.elim) (yieldsIf_load_mid (by rfl) _ _ rfl _ _ rfl ([iv (st : Int), .string ty, .string bo, .bool cl]) _ (fun V hV => rangeAt_same (HB.out.range0) ((show Below A.heap.size A V from hV).block _ (HB.out.lt))) Tryd.underlying23 rfl (size23)) hS0.out ?_
  simp only [Act.put, List.setIfInBounds_toArray, List.set_cons_zero, List.set_cons_succ]
  refine wpAnyH_take (i := 2) (oi := { dst := some 26, op := Op.fieldAddr 23 (Operand.tmp 1) 2, type := 0, pos := "reply.go:62", after := #[], guard := none }) (v := .pointer (some ⟨b, 2, none⟩)) rfl (by kernel_rfl) (by kernel_rfl) (by kernel_rfl) (fun _ _ _ h => h.elim) (Or.inl ⟨by rfl, ?y1⟩) hS0.out ?_
  case y1 =>
    intro V hV
    go_simp
  simp only [Act.put, List.setIfInBounds_toArray, List.set_cons_zero, List.set_cons_succ]
  refine wpAnyH_take (i := 3) (oi := { dst := some 27, op := Op.load 9 (Operand.tmp 26), type := 9, pos := "reply.go:62", after := #[{ on := 2, ground := Ground.data }], guard := none }) (v := .string bo) rfl (by kernel_rfl) (by kernel_rfl) (by kernel_rfl) (fun _ _ _ h => h.elim) (Or.inl ⟨by rfl, ?y2⟩) hS0.out ?_
  case y2 =>
    intro V hV
    have hc : V.cell? ⟨b, 2, none⟩ = some (.string bo) := ((show Below A.heap.size A V from hV).cell (p := ⟨b, 2, none⟩) HB.out.lt).trans (HB.out.cell rfl)
    go_simp
  simp only [Act.put, List.setIfInBounds_toArray, List.set_cons_zero, List.set_cons_succ]
  refine wpAnyH_ready (rs := [1]) (by kernel_rfl) (by simp) (AllReadyH.cons (i := 1) (o := { dst := some 25, op := Op.call { callee := Callee.value (Operand.func 15), args := #[Operand.tmp 24], argTypes := #[23] }, type := 9, pos := "reply.go:62", after := #[{ on := 0, ground := Ground.data }], guard := none }) rfl ?_ AllReadyH.nil)
  · intro K1 hK1
    rw [if_pos (by rfl)]
    have HC1 := HHD.out V0 hS0.out
    go_wp2_with fail
    refine HC1.mono ?_
    rintro e V1 ⟨s, rfl, hs, hb1⟩
    dsimp only
    clear HC1
    have hS1 : Hid (Below A.heap.size A V1) := hS0.out.trans (hb1.mono hS0.out.size)
    clear hb1
    refine hK1.out _ _ hS1.out ?_
    clear hK1
    intro _
    try simp only [Act.put, List.setIfInBounds_toArray, List.set_cons_zero, List.set_cons_succ]
    refine wpAnyH_take (i := 4) (oi := { dst := some 28, op := Op.binOp BinOp.add 9 (Operand.tmp 25) (Operand.tmp 27) 9, type := 9, pos := "reply.go:62", after := #[{ on := 1, ground := Ground.data }, { on := 3, ground := Ground.data }], guard := none }) (v := .string (s ++ bo)) rfl (by kernel_rfl) (by kernel_rfl) (by kernel_rfl) (fun _ _ _ h => h.elim) (Or.inl ⟨by rfl, ?y3⟩) hS1.out ?_
    case y3 =>
      intro V hV
      exact yl_cat V (.tmp 25) (.tmp 27) _ _ rfl rfl rfl (Nat.le_trans hs.out.2 (by decide)) (Nat.le_trans HBO.out (by decide))
    simp only [Act.put, List.setIfInBounds_toArray, List.set_cons_zero, List.set_cons_succ]
    refine wpAnyH_take (i := 5) (oi := { dst := some 2, op := Op.assign (Operand.tmp 28), type := 9, pos := "reply.go:62", after := #[{ on := 4, ground := Ground.data }, { on := 1, ground := Ground.chain }, { on := 0, ground := Ground.phase }, { on := 1, ground := Ground.phase }, { on := 2, ground := Ground.phase }, { on := 3, ground := Ground.phase }, { on := 4, ground := Ground.phase }], guard := none }) (v := .string (s ++ bo)) rfl (by kernel_rfl) (by kernel_rfl) (by kernel_rfl) (fun _ _ _ h => h.elim) (Or.inl ⟨by rfl, ?y4⟩) hS1.out ?_
    case y4 =>
      intro V hV
      go_simp
    simp only [Act.put, List.setIfInBounds_toArray, List.set_cons_zero, List.set_cons_succ]
    refine wpAnyH_take (i := 6) (oi := { dst := some 3, op := Op.assign (Operand.const (Value.int IntKind.i64 0)), type := 25, pos := "reply.go:62", after := #[{ on := 5, ground := Ground.chain }, { on := 0, ground := Ground.phase }, { on := 1, ground := Ground.phase }, { on := 2, ground := Ground.phase }, { on := 3, ground := Ground.phase }, { on := 4, ground := Ground.phase }, { on := 5, ground := Ground.phase }], guard := none }) (v := iv 0) rfl (by kernel_rfl) (by kernel_rfl) (by kernel_rfl) (fun _ _ _ h => h.elim) (Or.inl ⟨by rfl, ?y5⟩) hS1.out ?_
    case y5 =>
      intro V hV
      go_simp
    simp only [Act.put, List.setIfInBounds_toArray, List.set_cons_zero, List.set_cons_succ]
    refine wpAnyH_done (by kernel_rfl) ?_ _
    exact hQ V1 s hs hS1.out
#print axioms pr5
set_option maxRecDepth 100000 in
set_option maxHeartbeats 4000000 in
theorem print_is (st : Int) (ty bo : BA) (cl : Bool) (w : World) (hp : PT w) (hty : ty.size ≤ 70000) (hbo : bo.size ≤ 70000) : Calls Tryd.prog 8 #[.agg #[iv st, .string ty, .string bo, .bool cl]] w fun e w' => ∃ s : BA, e = .returned (.tuple #[.string s, iv (prL st ty bo cl).2]) ∧ Hid (s.data.toList = (prL st ty bo cl).1) ∧ Below w.heap.size w w' := by
  obtain ⟨b, hb⟩ : ∃ b, w.heap.size = b := ⟨_, rfl⟩
  obtain ⟨A, hA⟩ : ∃ A, w.alloc (.cells #[iv st, .string ty, .string bo, .bool cl] 23) = A := ⟨_, rfl⟩
  have hB : Below w.heap.size w A := by rw [← hA]; exact below_al _ _
  have h2 : Blk A b 23 [iv st, .string ty, .string bo, .bool cl] := by rw [← hA, ← hb]; exact Blk.new w _ _
  have HA : Hid (Below w.heap.size w A ∧ Blk A b 23 [iv st, .string ty, .string bo, .bool cl] ∧ PT A) := ⟨hB, h2, hp.below hB⟩
  have HSZ : Hid (ty.size ≤ 70000 ∧ bo.size ≤ 70000) := ⟨hty, hbo⟩
  have c0 : A.cell? ⟨b, 0, none⟩ = some (iv st) := h2.cell rfl
  have c1 : A.cell? ⟨b, 1, none⟩ = some (.string ty) := h2.cell rfl
  have c2 : A.cell? ⟨b, 2, none⟩ = some (.string bo) := h2.cell rfl
  obtain ⟨q, hq⟩ : ∃ q, prL st ty bo cl = q := ⟨_, rfl⟩
  have HQ : Hid (prL st ty bo cl = q) := hq
  rw [hq]
  obtain ⟨n, hn⟩ : ∃ n, bo.size = n := ⟨_, rfl⟩
  have HN : Hid (bo.size = n ∧ n ≤ 70000) := ⟨hn, by omega⟩
  have qn : (n : Int) ≤ 70000 := by omega
  obtain ⟨tb, htb⟩ : ∃ t, typB ty.data.toList = t := ⟨_, rfl⟩
  have HTB : Hid (typB ty.data.toList = tb) := htb
  clear hp hty hbo hB h2 hq htb
  by_cases h100 : st < 100
  · have HF : Hid (q = ([], 2)) := by show _ = _; rw [← HQ.out]; unfold prL; rw [if_pos (.inl h100)]
    go_enter Tryd.func8, Tryd.ntmps8
    go_wp2
    go_ret2
    exact ⟨⟨#[]⟩, by rw [HF.out]; rfl, by show _ = _; rw [HF.out], HA.out.1⟩
  · have q100 : (100 : Int) ≤ st := by omega
    have d100 : decide (st < 100) = false := decide_eq_false h100
    by_cases h999 : 999 < st
    · have HF : Hid (q = ([], 2)) := by show _ = _; rw [← HQ.out]; unfold prL; rw [if_pos (.inr (.inl h999))]
      clear h100
      go_enter Tryd.func8, Tryd.ntmps8
      go_wp2
      go_ret2
      exact ⟨⟨#[]⟩, by rw [HF.out]; rfl, by show _ = _; rw [HF.out], HA.out.1⟩
    · have q999 : st ≤ 999 := by omega
      have d999 : decide (999 < st) = false := decide_eq_false h999
      have HST : Hid (100 ≤ st ∧ st ≤ 999) := ⟨q100, q999⟩
      have HT := isType_is ty (by have := HSZ.out.1; omega) A
      rw [HTB.out] at HT
      clear h100 h999
      go_enter Tryd.func8, Tryd.ntmps8
      go_wp2_with fail
      refine HT.mono ?_
      rintro e W ⟨rfl, rfl⟩
      clear HT hA hb
      cases tb
      · have HF : Hid (q = ([], 2)) := by show _ = _; rw [← HQ.out]; unfold prL; rw [if_pos (.inr (.inr HTB.out))]
        go_wp2
        go_ret2
        exact ⟨⟨#[]⟩, by rw [HF.out]; rfl, by show _ = _; rw [HF.out], HA.out.1⟩
      · by_cases h64 : (65536 : Int) < (n : Int)
        · have HF : Hid (q = ([], 3)) := by
            show _ = _
            have := HST.out
            rw [← HQ.out]; unfold prL; rw [if_neg (by rw [HTB.out]; rintro (h | h | h); omega; omega; cases h), if_pos (by rw [HN.out.1]; omega)]
          go_wp2
          go_ret2
          exact ⟨⟨#[]⟩, by rw [HF.out]; rfl, by show _ = _; rw [HF.out], HA.out.1⟩
        · have q64 : (n : Int) ≤ 65536 := by omega
          have HB6 : Hid (bo.size ≤ 65536) := by show _ ≤ _; rw [HN.out.1]; omega
          have HTS : Hid (ty.size ≤ 64) := by
            have := HTB.out
            unfold typB at this
            simp only [Bool.and_eq_true, decide_eq_true_eq] at this
            exact this.1.1.1
          obtain ⟨k, hk⟩ : ∃ k : Nat, st = (k : Int) := ⟨st.toNat, by have := HST.out; omega⟩
          have HF : Hid (q = (headL k ty.data.toList bo.size cl ++ bo.data.toList, 0)) := by
            show _ = _
            have := HST.out
            rw [← HQ.out]; unfold prL; rw [if_neg (by rw [HTB.out]; rintro (h | h | h); omega; omega; cases h), if_neg (by rw [HN.out.1]; omega), hk]
            rfl
          have HK9 : Hid (k ≤ 999) := by show _ ≤ _; have := HST.out; omega
          subst hk
          clear h64 d100 d999
          have HHD : Hid (∀ V, Below A.heap.size A V → Calls Tryd.prog 15 #[.agg #[iv (k : Int), .string ty, .string bo, .bool cl]] V fun e V2 => ∃ s : BA, e = .returned (.string s) ∧ Hid (s.data.toList = headL k ty.data.toList bo.size cl ∧ s.size ≤ 90000) ∧ Below V.heap.size V V2) := fun V hV => headOf_is k ty bo cl V (HA.out.2.2.below hV) HK9.out HTS.out HB6.out
          have HB : Hid (Blk A b 23 [iv (k : Int), .string ty, .string bo, .bool cl]) := HA.out.2.1
          go_wp2_with fail
          refine pr5 HB HB6 HHD ?_
          intro V1 s hs hb1
          have HE : Hid ((s ++ bo).data.toList = q.1 ∧ Below w.heap.size w V1) := by
            refine ⟨?_, below_tr HA.out.1 hb1⟩
            rw [HF.out, ByteArray.data_append, Array.toList_append, hs.out.1]
          clear hs hb1 HHD HB
          go_wp2
          go_ret2
          exact ⟨s ++ bo, by rw [HF.out]; rfl, HE.out.1, HE.out.2⟩
#print axioms print_is
set_option maxRecDepth 100000 in
set_option maxHeartbeats 4000000 in
theorem rprint_is (st : Int) (ty bo : BA) (cl : Bool) (w : World) (hp : PT w) (hty : ty.size ≤ 70000) (hbo : bo.size ≤ 70000) : Calls Tryd.prog 9 #[.agg #[iv st, .string ty, .string bo, .bool cl]] w fun e w' => ∃ s : BA, e = .returned (.tuple #[.string s, iv (prL st ty bo cl).2]) ∧ Hid (s.data.toList = (prL st ty bo cl).1) ∧ Below w.heap.size w w' := by
  obtain ⟨b, hb⟩ : ∃ b, w.heap.size = b := ⟨_, rfl⟩
  obtain ⟨A, hA⟩ : ∃ A, w.alloc (.cells #[iv st, .string ty, .string bo, .bool cl] 23) = A := ⟨_, rfl⟩
  have hB : Below w.heap.size w A := by rw [← hA]; exact below_al _ _
  have h2 : Blk A b 23 [iv st, .string ty, .string bo, .bool cl] := by rw [← hA, ← hb]; exact Blk.new w _ _
  have HA : Hid (Below w.heap.size w A ∧ Blk A b 23 [iv st, .string ty, .string bo, .bool cl] ∧ PT A) := ⟨hB, h2, hp.below hB⟩
  have HSZ : Hid (ty.size ≤ 70000 ∧ bo.size ≤ 70000) := ⟨hty, hbo⟩
  have c0 : A.cell? ⟨b, 0, none⟩ = some (iv st) := h2.cell rfl
  have c1 : A.cell? ⟨b, 1, none⟩ = some (.string ty) := h2.cell rfl
  have c2 : A.cell? ⟨b, 2, none⟩ = some (.string bo) := h2.cell rfl
  obtain ⟨q, hq⟩ : ∃ q, prL st ty bo cl = q := ⟨_, rfl⟩
  have HQ : Hid (prL st ty bo cl = q) := hq
  rw [hq]
  obtain ⟨n, hn⟩ : ∃ n, bo.size = n := ⟨_, rfl⟩
  have HN : Hid (bo.size = n ∧ n ≤ 70000) := ⟨hn, by omega⟩
  have qn : (n : Int) ≤ 70000 := by omega
  obtain ⟨tb, htb⟩ : ∃ t, typB ty.data.toList = t := ⟨_, rfl⟩
  have HTB : Hid (typB ty.data.toList = tb) := htb
  clear hp hty hbo hB h2 hq htb
  by_cases h100 : st < 100
  · have HF : Hid (q = ([], 2)) := by show _ = _; rw [← HQ.out]; unfold prL; rw [if_pos (.inl h100)]
    go_enter Tryd.func9, Tryd.ntmps9
    go_wp2
    go_ret2
    exact ⟨⟨#[]⟩, by rw [HF.out]; rfl, by show _ = _; rw [HF.out], HA.out.1⟩
  · have q100 : (100 : Int) ≤ st := by omega
    have d100 : decide (st < 100) = false := decide_eq_false h100
    by_cases h999 : 999 < st
    · have HF : Hid (q = ([], 2)) := by show _ = _; rw [← HQ.out]; unfold prL; rw [if_pos (.inr (.inl h999))]
      clear h100
      go_enter Tryd.func9, Tryd.ntmps9
      go_wp2
      go_ret2
      exact ⟨⟨#[]⟩, by rw [HF.out]; rfl, by show _ = _; rw [HF.out], HA.out.1⟩
    · have q999 : st ≤ 999 := by omega
      have d999 : decide (999 < st) = false := decide_eq_false h999
      have HST : Hid (100 ≤ st ∧ st ≤ 999) := ⟨q100, q999⟩
      have HT := typed_is ty (by have := HSZ.out.1; omega) A
      rw [HTB.out] at HT
      clear h100 h999
      go_enter Tryd.func9, Tryd.ntmps9
      go_wp2_with fail
      refine HT.mono ?_
      rintro e W ⟨rfl, rfl⟩
      clear HT hA hb
      cases tb
      · have HF : Hid (q = ([], 2)) := by show _ = _; rw [← HQ.out]; unfold prL; rw [if_pos (.inr (.inr HTB.out))]
        go_wp2
        go_ret2
        exact ⟨⟨#[]⟩, by rw [HF.out]; rfl, by show _ = _; rw [HF.out], HA.out.1⟩
      · by_cases h64 : (65536 : Int) < (n : Int)
        · have HF : Hid (q = ([], 3)) := by
            show _ = _
            have := HST.out
            rw [← HQ.out]; unfold prL; rw [if_neg (by rw [HTB.out]; rintro (h | h | h); omega; omega; cases h), if_pos (by rw [HN.out.1]; omega)]
          go_wp2
          go_ret2
          exact ⟨⟨#[]⟩, by rw [HF.out]; rfl, by show _ = _; rw [HF.out], HA.out.1⟩
        · have q64 : (n : Int) ≤ 65536 := by omega
          have HB6 : Hid (bo.size ≤ 65536) := by show _ ≤ _; rw [HN.out.1]; omega
          have HTS : Hid (ty.size ≤ 64) := by
            have := HTB.out
            unfold typB at this
            simp only [Bool.and_eq_true, decide_eq_true_eq] at this
            exact this.1.1.1
          obtain ⟨k, hk⟩ : ∃ k : Nat, st = (k : Int) := ⟨st.toNat, by have := HST.out; omega⟩
          have HF : Hid (q = (headL k ty.data.toList bo.size cl ++ bo.data.toList, 0)) := by
            show _ = _
            have := HST.out
            rw [← HQ.out]; unfold prL; rw [if_neg (by rw [HTB.out]; rintro (h | h | h); omega; omega; cases h), if_neg (by rw [HN.out.1]; omega), hk]
            rfl
          have HK9 : Hid (k ≤ 999) := by show _ ≤ _; have := HST.out; omega
          subst hk
          clear h64 d100 d999
          have HTX := text_is k ty bo cl A HA.out.2.2 HK9.out HTS.out HB6.out
          go_wp2_with (with_reducible change wpList _ _ _ ({ dst := some 22, op := _, type := _, pos := _, after := _, guard := _ } :: _) _ _; refine Hid.out ?_)
          show wpList _ _ _ _ _ _
          refine wpList_load_row rfl 23 (.tmp 1) rfl b rfl 23 #[iv (k : Int), .string ty, .string bo, .bool cl] (0, 0) _ HA.out.2.1 Tryd.underlying23 rfl size23 ?_
          simp only [Act.put, List.setIfInBounds_toArray, List.set_cons_zero, List.set_cons_succ]
          go_wp2_with fail
          refine HTX.mono ?_
          rintro e V1 ⟨s, rfl, hs, hb1⟩
          have HE : Hid (s.data.toList = q.1 ∧ Below w.heap.size w V1) := ⟨by rw [HF.out, hs.out.1], below_tr HA.out.1 hb1⟩
          clear hs hb1 HTX
          go_wp2
          go_ret2
          exact ⟨s, by rw [HF.out]; rfl, HE.out.1, HE.out.2⟩
#print axioms rprint_is
end Go.Proofs.YtkpepfeiimphpaaDoor.Oct
