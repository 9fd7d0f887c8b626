/-
  Layer 12 (deps): the reference: Above: its condition, whatever its order.
  Layer 12 (deps): the reference: Above.
  Layer 12 (deps): DepsTells: its last statement, whatever its order.
  Layer 12 (deps): DepsTells.
-/
import Derived.Test.YtijkpkcopjkhkaaMt5
/- Layer 12 (deps): the reference: Above: its condition, whatever its order. -/
namespace Go.Proofs.Ytijkpkcopjkhkaa.Oct
open Go.RowKit
set_option linter.unusedSimpArgs false

set_option maxRecDepth 100000 in
set_option maxHeartbeats 2000000 in
theorem rabove_region {Q : Exit → Act → World → Prop} {x1 x2 x4 x5 x7 x8 x9 x10 x11 x12 x13 x14 x15 x16 x17 x18 x19 x20 x21 x22 x23 x24 x25 x26 x27 x28 x29 x30 x31 x32 x33 : Value} {ds : List Deferred} {A : World} {g off n c hb i : Nat} {x h : Hs} {B : Bool}
    (hx : x.length = 32) (hh : h.length = 32) (q1 : (i : Int) < (n : Int)) (HK : Hid (A.rangeAt g (off + i * 33) (U x) ∧ A.rangeAt hb 0 (U h) ∧ g < A.heap.size ∧ hb < A.heap.size)) (h15 : Hid (∀ V, Below A.heap.size A V → Calls Try.prog 15 #[.slice (some ⟨g, off, none⟩) n c, .agg (U x).toArray] V fun e V1 => ∃ p n c rs, e = .returned (.slice p n c) ∧ Hid (HsR V1 p n rs ∧ n ≤ 100000 ∧ decide (h ∈ rs) = B) ∧ Hid (Below V.heap.size V V1)))
    (hQ : ∀ (p1 : Option Addr) (n1 c1 : Nat) (z1 : Int) (V : World), Below A.heap.size A V → Q .normal { tmps := #[.slice (some ⟨g, off, none⟩) n c, x1, x2, .pointer (some ⟨hb, 0, none⟩), x4, x5, .int .i64 (i : Int), x7, x8, x9, x10, x11, x12, x13, x14, x15, .slice (some ⟨g, off, none⟩) n c, .slice (some ⟨g, off, none⟩) n c, .int .i64 (i : Int), .pointer (some ⟨g, off + i * 33, none⟩), .pointer (some ⟨g, off + i * 33, none⟩), .agg (U x).toArray, .slice p1 n1 c1, .agg (U h).toArray, .int .i64 z1, .bool B, x26, x27, x28, x29, x30, x31, x32, x33], defers := ds } V) :
    (Code.region 7 #[{ dst := some 16, op := Op.move (Operand.tmp 0), type := 22, pos := "ref.go:102", after := #[], guard := none }, { dst := some 17, op := Op.move (Operand.tmp 0), type := 22, pos := "ref.go:102", after := #[], guard := none }, { dst := some 18, op := Op.move (Operand.tmp 6), type := 3, pos := "ref.go:102", after := #[], guard := none }, { dst := some 19, op := Op.indexAddr 22 (Operand.tmp 17) (Operand.tmp 18), type := 0, pos := "ref.go:102", after := #[{ on := 1, ground := Ground.data }, { on := 2, ground := Ground.data }], guard := none }, { dst := some 20, op := Op.fieldAddr 36 (Operand.tmp 19) 0, type := 0, pos := "ref.go:102", after := #[{ on := 3, ground := Ground.data }], guard := none }, { dst := some 21, op := Op.load 34 (Operand.tmp 20), type := 34, pos := "ref.go:102", after := #[{ on := 4, ground := Ground.data }], guard := none }, { dst := some 22, op := Op.call { callee := Callee.value (Operand.func 15), args := #[Operand.tmp 16, Operand.tmp 21], argTypes := #[22, 34] }, type := 26, pos := "ref.go:102", after := #[{ on := 0, ground := Ground.data }, { on := 5, ground := Ground.data }], guard := none }, { dst := some 23, op := Op.load 34 (Operand.tmp 3), type := 34, pos := "ref.go:102", after := #[], guard := none }, { dst := some 24, op := Op.call { callee := Callee.value (Operand.func 22), args := #[Operand.tmp 22, Operand.tmp 23], argTypes := #[26, 34] }, type := 3, pos := "ref.go:102", after := #[{ on := 6, ground := Ground.data }, { on := 7, ground := Ground.data }, { on := 6, ground := Ground.chain }], guard := none }, { dst := some 25, op := Op.binOp BinOp.geq 3 (Operand.tmp 24) (Operand.const (Value.int IntKind.i64 0)) 3, type := 4, pos := "ref.go:102", after := #[{ on := 8, ground := Ground.data }], guard := none }] true).wp Try.prog Q { tmps := #[.slice (some ⟨g, off, none⟩) n c, x1, x2, .pointer (some ⟨hb, 0, none⟩), x4, x5, .int .i64 (i : Int), x7, x8, x9, x10, x11, x12, x13, x14, x15, x16, x17, x18, x19, x20, x21, x22, x23, x24, x25, x26, x27, x28, x29, x30, x31, x32, x33], defers := ds } A := by
  refine Code.wp_mono (Q := fun x a' w' => match x with | .normal => Q .normal a' w' | _ => False) (by intro x a' w' h; cases x <;> first | exact h | exact h.elim) ?_
  refine wp_region_held (S := fun V => Below A.heap.size A V) (by kernel_rfl) ?_
  have hS0 : Hid (Below A.heap.size A A.drew) := below_drew A
  change wpAnyH Try.prog .any _ _ (fun V => Below A.heap.size A V) 10 (Array.replicate 10 false) _ A.drew
  refine wpAnyH_take (i := 0) (oi := { dst := some 16, op := Op.move (Operand.tmp 0), type := 22, pos := "ref.go:102", after := #[], guard := none }) (v := .slice (some ⟨g, off, none⟩) n c) rfl (by kernel_rfl) (by kernel_rfl) (by kernel_rfl) (fun _ _ _ h => h.elim) (Or.inl ⟨by rfl, ?y0⟩) hS0.out ?_
  case y0 =>
    intro V hV
    go_simp
  simp only [Act.put, List.setIfInBounds_toArray, List.set_cons_zero, List.set_cons_succ]
  refine wpAnyH_take (i := 1) (oi := { dst := some 17, op := Op.move (Operand.tmp 0), type := 22, pos := "ref.go:102", after := #[], guard := none }) (v := .slice (some ⟨g, off, none⟩) n c) rfl (by kernel_rfl) (by kernel_rfl) (by kernel_rfl) (fun _ _ _ h => h.elim) (Or.inl ⟨by rfl, ?y1⟩) hS0.out ?_
  case y1 =>
    intro V hV
    go_simp
  simp only [Act.put, List.setIfInBounds_toArray, List.set_cons_zero, List.set_cons_succ]
  refine wpAnyH_take (i := 2) (oi := { dst := some 18, op := Op.move (Operand.tmp 6), type := 3, pos := "ref.go:102", after := #[], guard := none }) (v := .int .i64 (i : Int)) rfl (by kernel_rfl) (by kernel_rfl) (by kernel_rfl) (fun _ _ _ h => h.elim) (Or.inl ⟨by rfl, ?y2⟩) hS0.out ?_
  case y2 =>
    intro V hV
    go_simp
  simp only [Act.put, List.setIfInBounds_toArray, List.set_cons_zero, List.set_cons_succ]
  refine wpAnyH_take (i := 3) (oi := { dst := some 19, op := Op.indexAddr 22 (Operand.tmp 17) (Operand.tmp 18), type := 0, pos := "ref.go:102", after := #[{ on := 1, ground := Ground.data }, { on := 2, ground := Ground.data }], guard := none }) (v := .pointer (some ⟨g, off + i * 33, none⟩)) rfl (by kernel_rfl) (by kernel_rfl) (by kernel_rfl) (fun _ _ _ h => h.elim) (Or.inl ⟨by rfl, ?y3⟩) hS0.out ?_
  case y3 =>
    intro V hV
    go_simp
  simp only [Act.put, List.setIfInBounds_toArray, List.set_cons_zero, List.set_cons_succ]
  refine wpAnyH_take (i := 4) (oi := { dst := some 20, op := Op.fieldAddr 36 (Operand.tmp 19) 0, type := 0, pos := "ref.go:102", after := #[{ on := 3, ground := Ground.data }], guard := none }) (v := .pointer (some ⟨g, off + i * 33, none⟩)) rfl (by kernel_rfl) (by kernel_rfl) (by kernel_rfl) (fun _ _ _ h => h.elim) (Or.inl ⟨by rfl, ?y4⟩) hS0.out ?_
  case y4 =>
    intro V hV
    go_simp
  simp only [Act.put, List.setIfInBounds_toArray, List.set_cons_zero, List.set_cons_succ]
  refine wpAnyH_take (i := 5) (oi := { dst := some 21, op := Op.load 34 (Operand.tmp 20), type := 34, pos := "ref.go:102", after := #[{ on := 4, ground := Ground.data }], guard := none }) (v := .agg (U x).toArray) rfl (by kernel_rfl) (by kernel_rfl) (by kernel_rfl) (fun _ _ _ h => h.elim) (yieldsIf_load_mid (by rfl) _ _ rfl _ _ rfl (U x) _ (fun V hV => rangeAt_same (HK.out.1) ((show Below A.heap.size A V from hV).block _ (HK.out.2.2.1))) Try.underlying34 rfl (info34 x hx)) hS0.out ?_
  simp only [Act.put, List.setIfInBounds_toArray, List.set_cons_zero, List.set_cons_succ]
  refine wpAnyH_take (i := 7) (oi := { dst := some 23, op := Op.load 34 (Operand.tmp 3), type := 34, pos := "ref.go:102", after := #[], guard := none }) (v := .agg (U h).toArray) rfl (by kernel_rfl) (by kernel_rfl) (by kernel_rfl) (fun _ _ _ h => h.elim) (yieldsIf_load_mid (by rfl) _ _ rfl _ _ rfl (U h) _ (fun V hV => rangeAt_same (HK.out.2.1) ((show Below A.heap.size A V from hV).block _ (HK.out.2.2.2))) Try.underlying34 rfl (info34 h hh)) hS0.out ?_
  simp only [Act.put, List.setIfInBounds_toArray, List.set_cons_zero, List.set_cons_succ]
  refine wpAnyH_ready (rs := [6]) (by kernel_rfl) (by simp) (AllReadyH.cons (i := 6) (o := { dst := some 22, op := Op.call { callee := Callee.value (Operand.func 15), args := #[Operand.tmp 16, Operand.tmp 21], argTypes := #[22, 34] }, type := 26, pos := "ref.go:102", after := #[{ on := 0, ground := Ground.data }, { on := 5, ground := Ground.data }], guard := none }) rfl ?_ AllReadyH.nil)
  intro K1 hK1
  rw [if_pos (by rfl)]
  have HC1 := h15.out A.drew hS0.out
  go_wp2_with fail
  refine HC1.mono ?_
  rintro e V1 ⟨p1, n1, c1, rs1, rfl, H1, HB1⟩
  dsimp only
  clear HC1
  have hS1 : Hid (Below A.heap.size A V1) := hS0.out.trans (HB1.out.mono hS0.out.size)
  refine hK1.out _ _ hS1.out ?_
  clear hK1
  intro _
  try simp only [Act.put, List.setIfInBounds_toArray, List.set_cons_zero, List.set_cons_succ]
  refine wpAnyH_ready (rs := [8]) (by kernel_rfl) (by simp) (AllReadyH.cons (i := 8) (o := { dst := some 24, op := Op.call { callee := Callee.value (Operand.func 22), args := #[Operand.tmp 22, Operand.tmp 23], argTypes := #[26, 34] }, type := 3, pos := "ref.go:102", after := #[{ on := 6, ground := Ground.data }, { on := 7, ground := Ground.data }, { on := 6, ground := Ground.chain }], guard := none }) rfl ?_ AllReadyH.nil)
  intro K1 hK1
  rw [if_pos (by rfl)]
  have HC2 := place_tell V1 p1 n1 c1 rs1 h B H1.out.1 hh H1.out.2.1 H1.out.2.2
  go_wp2_with fail
  refine HC2.mono ?_
  rintro e V2 ⟨z1, rfl, HZ1, HB2⟩
  dsimp only
  clear HC2
  have hS2 : Hid (Below A.heap.size A V2) := hS1.out.trans (HB2.out.mono hS1.out.size)
  refine hK1.out _ _ hS2.out ?_
  clear hK1
  intro _
  try simp only [Act.put, List.setIfInBounds_toArray, List.set_cons_zero, List.set_cons_succ]
  refine wpAnyH_take (i := 9) (oi := { dst := some 25, op := Op.binOp BinOp.geq 3 (Operand.tmp 24) (Operand.const (Value.int IntKind.i64 0)) 3, type := 4, pos := "ref.go:102", after := #[{ on := 8, ground := Ground.data }], guard := none }) (v := .bool B) rfl (by kernel_rfl) (by kernel_rfl) (by kernel_rfl) (fun _ _ _ h => h.elim) (Or.inl ⟨by rfl, ?y9⟩) hS2.out ?_
  case y9 =>
    intro V hV
    have q := HZ1.out
    go_simp
  simp only [Act.put, List.setIfInBounds_toArray, List.set_cons_zero, List.set_cons_succ]
  refine wpAnyH_done (by kernel_rfl) ?_ _
  exact hQ p1 n1 c1 z1 V2 hS2.out
end Go.Proofs.Ytijkpkcopjkhkaa.Oct

/- Layer 12 (deps): the reference: Above. -/
namespace Go.Proofs.Ytijkpkcopjkhkaa.Oct
open Go.RowKit

theorem rneeds_tell (w : World) (a : Option Addr) (len cap : Nat) (l : List It) (h y : Hs) (hi : Its w a len l) (hl : h.length = 32) (hn : len ≤ 256) (hm : many l ≤ 90000) (B : Bool) (hB : B = true ↔ Reach (getS (downS l)) h y) :
    Calls Try.prog 15 #[.slice a len cap, .agg (U h).toArray] w fun e w' => ∃ p n c rs, e = .returned (.slice p n c) ∧ Hid (HsR w' p n rs ∧ n ≤ 100000 ∧ decide (y ∈ rs) = B) ∧ Hid (Below w.heap.size w w') := by
  refine (rneeds_is w a len cap l h hi hl (by omega) hm).mono ?_
  rintro e w' ⟨p, n, c, rs, rfl, H1, H2⟩
  refine ⟨p, n, c, rs, rfl, ⟨H1.out.1, H1.out.2.1, ?_⟩, H2⟩
  rw [Bool.eq_iff_iff, decide_eq_true_iff, hB, H1.out.2.2.2]
  exact ⟨fun h => h.2, fun h => ⟨hn, h⟩⟩
theorem reach_from {l : List It} {y h : Hs} (hr : Reach (getS (downS l)) y h) : ∃ it ∈ l, it.name = y := by
  induction hr with
  | one h1 =>
    obtain ⟨it, m1, m2, _⟩ := (mem_down l _ _).1 h1
    exact ⟨it, m1, m2⟩
  | step _ _ ih => exact ih

set_option maxRecDepth 100000 in
set_option maxHeartbeats 4000000 in
theorem rabove_is (w : World) (a : Option Addr) (len cap : Nat) (l : List It) (h : Hs) (hi : Its w a len l) (hl : h.length = 32) (hn : len ≤ 100000) (hm : many l ≤ 90000) :
    Calls Try.prog 17 #[.slice a len cap, .agg (U h).toArray] w (SetP w fun x => len ≤ 256 ∧ Reach (getS (upS l)) h x) := by
  have HA : Hid (Its w a len l ∧ len ≤ 100000 ∧ many l ≤ 90000 ∧ l.length = len ∧ h.length = 32) := ⟨hi, hn, hm, hi.1, hl⟩
  have q5 : (len : Int) ≤ 100000 := by omega
  obtain ⟨W, hW⟩ : ∃ W, w.alloc (.cells (U h).toArray 34) = W := ⟨_, rfl⟩
  have HB : Hid (Below w.heap.size w W ∧ W.rangeAt w.heap.size 0 (U h) ∧ w.heap.size < W.heap.size) := ⟨by rw [← hW]; exact (Below.refl _ w).alloc (Nat.le_refl _) _, by rw [← hW]; exact new34 w h, by rw [← hW]; simp⟩
  have HW : Hid (w.alloc (.cells (U h).toArray 34) = W) := hW
  clear hW hi hl hn hm
  by_cases h256 : 256 < len
  · have q1 : (256 : Int) < (len : Int) := by omega
    have HN : Hid (¬ len ≤ 256) := by show ¬ _; omega
    clear h256
    go_enter Try.func17, Try.ntmps17
    go_wp2
    rw [HW.out]
    go_ret
    exact SetP.nil w (fun x hx => HN.out hx.1) HB.out.1
  · have q1 : ¬ (256 : Int) < (len : Int) := by omega
    have HN : Hid (len ≤ 256) := by show _ ≤ _; omega
    clear h256
    go_enter Try.func17, Try.ntmps17
    go_wp2
    rw [HW.out]
    clear HW
    go_loopw [6, 5] (fun u v wr => ∃ (i : Nat) (p : Option Addr) (m c : Nat) (rs : List Hs), u = .int .i64 (i : Int) ∧ v = .slice p m c ∧ Hid (i ≤ len ∧ Below W.heap.size W wr ∧ RiR wr p m c rs ∧ m ≤ i ∧ ∀ y, y ∈ rs ↔ (∃ it ∈ l.take i, it.name = y) ∧ Reach (getS (downS l)) y h)) (fun u _ _ => len - (intOf u).toNat)
    case atStart => exact ⟨0, none, 0, 0, [], rfl, rfl, ⟨Nat.zero_le _, Below.refl _ _, RiR.nil _, Nat.le_refl _, by simp⟩⟩
    case round =>
      obtain ⟨i, p, m, c, rs, rfl, rfl, HJ⟩ := hrel
      have HBW : Hid (Below w.heap.size w wr) := bt HB.out.1 HJ.out.2.1
      by_cases hin : i < len
      · obtain ⟨x, hx⟩ : ∃ x, l[i]? = some x := ⟨_, List.getElem?_eq_getElem (by rw [HA.out.2.2.2.1]; exact hin)⟩
        obtain ⟨b, off, rfl, hb, hel⟩ := HA.out.1.2 (by omega)
        have HX : Hid (i < len ∧ l[i]? = some x ∧ x.name.length = 32 ∧ x ∈ l) := ⟨hin, hx, (hel i x hx).1, List.mem_of_getElem? hx⟩
        have HK : Hid (wr.rangeAt b (off + i * 33) (U x.name) ∧ wr.rangeAt w.heap.size 0 (U h) ∧ b < wr.heap.size ∧ w.heap.size < wr.heap.size) := ⟨rangeAt_same (hel i x hx).nm (HBW.out.block b hb), rangeAt_same HB.out.2.1 (HJ.out.2.1.block _ HB.out.2.2), Nat.lt_of_lt_of_le hb HBW.out.size, Nat.lt_of_lt_of_le HB.out.2.2 HJ.out.2.1.size⟩
        have q2 : (i : Int) < (len : Int) := by omega
        have HT : Hid (∀ y, (∃ it ∈ l.take (i + 1), it.name = y) ↔ (∃ it ∈ l.take i, it.name = y) ∨ x.name = y) := fun y => by
          rw [List.take_add_one, hx]
          simp only [Option.toList, List.mem_append, List.mem_singleton]
          constructor
          · rintro ⟨it, h1 | rfl, h2⟩
            · exact .inl ⟨it, h1, h2⟩
            · exact .inr h2
          · rintro (⟨it, h1, h2⟩ | h2)
            · exact ⟨it, .inl h1, h2⟩
            · exact ⟨x, .inr rfl, h2⟩
        clear hel hx hin hb
        obtain ⟨B, hB⟩ : ∃ B : Bool, B = true ↔ Reach (getS (downS l)) x.name h := by
          classical
          exact ⟨decide (Reach (getS (downS l)) x.name h), decide_eq_true_iff⟩
        have HBB : Hid (B = true ↔ Reach (getS (downS l)) x.name h) := hB
        clear hB
        go_wp2
        refine rabove_region (x := x.name) (B := B) HX.out.2.2.1 HA.out.2.2.2.2 q2 HK (fun V1 h1 => rneeds_tell V1 _ len cap l x.name h (HA.out.1.below (bt HBW.out h1)) HX.out.2.2.1 HN.out HA.out.2.2.1 B HBB.out) ?_
        intro p1 n1 c1 z1 V2 hV2
        have HV2 : Hid (Below W.heap.size W V2 ∧ RiR V2 p m c rs ∧ V2.rangeAt b (off + i * 33) (U x.name)) := ⟨bt HJ.out.2.1 hV2, HJ.out.2.2.1.below hV2, rangeAt_same HK.out.1 (hV2.block _ HK.out.2.2.1)⟩
        clear hV2
        cases B with
        | false =>
          go_wp2
          refine ⟨⟨i + 1, p, m, c, rs, by simp, rfl, ⟨HX.out.1, HV2.out.1, HV2.out.2.1, by have := HJ.out.2.2.2.1; omega, fun y => ?_⟩⟩, ?_⟩
          · rw [HJ.out.2.2.2.2 y, HT.out y]
            constructor
            · rintro ⟨h1, h2⟩
              exact ⟨.inl h1, h2⟩
            · rintro ⟨h1 | rfl, h2⟩
              · exact ⟨h1, h2⟩
              · have := HBB.out.2 h2
                cases this
          · have := HX.out.1; simp [intOf]; omega
        | true =>
          go_wp2_with (first
            | (with_reducible change wpList _ _ _ ({ dst := some 31, op := _, type := _, pos := _, after := _, guard := _ } :: _) _ _
               refine wpList_load_mid rfl 34 (.tmp 30) rfl b (off + i * 33) rfl (U x.name) _ HV2.out.2.2 Try.underlying34 rfl (info34 x.name HX.out.2.2.1) ?_)
            | fail)
          refine (with_is V2 p m c rs x.name HV2.out.2.1 HX.out.2.2.1 (by have := HJ.out.2.2.2.1; have := HX.out.1; have := HA.out.2.1; omega)).mono ?_
          rintro e V3 ⟨p', m', c', rs', rfl, H2, HB2, _⟩
          go_wp2
          refine ⟨⟨i + 1, p', m', c', rs', by simp, rfl, ⟨HX.out.1, bt HV2.out.1 HB2.out, H2.out.1, by have := HJ.out.2.2.2.1; have := H2.out.2.1; omega, fun y => ?_⟩⟩, ?_⟩
          · rw [H2.out.2.2 y, HJ.out.2.2.2.2 y, HT.out y]
            constructor
            · rintro (⟨h1, h2⟩ | rfl)
              · exact ⟨.inl h1, h2⟩
              · exact ⟨.inr rfl, HBB.out.1 (by trivial)⟩
            · rintro ⟨h1 | rfl, h2⟩
              · exact .inl ⟨h1, h2⟩
              · exact .inr rfl
          · have := HX.out.1; simp [intOf]; omega
      · have q2 : ¬ (i : Int) < (len : Int) := by omega
        have HT : Hid (l.take i = l) := List.take_of_length_le (by have := HA.out.2.2.2.1; omega)
        have HBW : Hid (Below w.heap.size w wr) := bt HB.out.1 HJ.out.2.1
        clear hin
        go_wp2
        go_ret
        refine ⟨p, m, c, rs, rfl, ⟨HJ.out.2.2.1.1, by have := HJ.out.2.2.2.1; have := HJ.out.1; have := HA.out.2.1; omega, HJ.out.2.2.1.2.2.2, fun y => ?_⟩, HBW⟩
        rw [HJ.out.2.2.2.2 y, HT.out]
        show _ ↔ len ≤ 256 ∧ Reach (getS (upS l)) h y
        rw [← mirror]
        exact ⟨fun h => ⟨HN.out, h.2⟩, fun h => ⟨reach_from h.2, h.2⟩⟩
end Go.Proofs.Ytijkpkcopjkhkaa.Oct

/- Layer 12 (deps): DepsTells: its last statement, whatever its order. -/
namespace Go.Proofs.Ytijkpkcopjkhkaa.Oct
open Go.RowKit
set_option linter.unusedSimpArgs false

set_option maxRecDepth 100000 in
set_option maxHeartbeats 2000000 in
theorem tells_region {Q : Exit → Act → World → Prop} {x1 x2 x4 x5 x6 x7 x8 x9 x10 x11 x12 x13 x14 x15 x16 x17 x18 x19 x20 x21 x22 x23 x24 x25 x26 x27 x28 x29 x30 x31 x32 x33 x34 x35 x36 x37 x38 x39 x40 x41 x42 x43 x44 x45 x46 x47 x48 x49 x50 x51 : Value} {ds : List Deferred} {A : World} {a : Option Addr} {len cap hb : Nat} {h : Hs} {l : List It}
    (HK : Hid (A.rangeAt hb 0 (U h) ∧ hb < A.heap.size)) (HI : Hid (Its A a len l ∧ h.length = 32 ∧ len ≤ 100000 ∧ many l ≤ 90000 ∧ len ≤ cap))
    (hQ : ∀ (p1 : Option Addr) (n1 c1 : Nat) (p2 : Option Addr) (n2 c2 : Nat) (p3 : Option Addr) (n3 c3 : Nat) (p4 : Option Addr) (n4 c4 : Nat) (p5 : Option Addr) (n5 c5 : Nat) (p6 : Option Addr) (n6 c6 : Nat) (b1 : Bool) (V : World), Below A.heap.size A V → Q .normal { tmps := #[.slice a len cap, x1, x2, .pointer (some ⟨hb, 0, none⟩), .bool true, x5, x6, x7, x8, x9, x10, x11, x12, x13, x14, x15, x16, x17, x18, .slice a len cap, .agg (U h).toArray, .slice p1 n1 c1, .slice a len cap, .agg (U h).toArray, .slice p2 n2 c2, .bool true, .bool true, .slice a len cap, .agg (U h).toArray, .slice p3 n3 c3, .slice a len cap, .agg (U h).toArray, .slice p4 n4 c4, .bool true, .bool true, .bool true, .slice a len cap, .slice p5 n5 c5, .slice a len cap, .slice p6 n6 c6, .bool true, .bool true, .bool true, .slice a len cap, .bool b1, .slice a len cap, .bool b1, .bool true, .bool true, .bool true, .bool true, .bool true], defers := ds } V) :
    (Code.region 3 #[{ dst := some 19, op := Op.move (Operand.tmp 0), type := 22, pos := "law.go:64", after := #[], guard := none }, { dst := some 20, op := Op.load 34 (Operand.tmp 3), type := 34, pos := "law.go:64", after := #[], guard := none }, { dst := some 21, op := Op.call { callee := Callee.value (Operand.func 14), args := #[Operand.tmp 19, Operand.tmp 20], argTypes := #[22, 34] }, type := 26, pos := "law.go:64", after := #[{ on := 0, ground := Ground.data }, { on := 1, ground := Ground.data }], guard := none }, { dst := some 22, op := Op.move (Operand.tmp 0), type := 22, pos := "law.go:64", after := #[], guard := none }, { dst := some 23, op := Op.load 34 (Operand.tmp 3), type := 34, pos := "law.go:64", after := #[], guard := none }, { dst := some 24, op := Op.call { callee := Callee.value (Operand.func 15), args := #[Operand.tmp 22, Operand.tmp 23], argTypes := #[22, 34] }, type := 26, pos := "law.go:64", after := #[{ on := 3, ground := Ground.data }, { on := 4, ground := Ground.data }, { on := 2, ground := Ground.chain }], guard := none }, { dst := some 25, op := Op.call { callee := Callee.value (Operand.func 13), args := #[Operand.tmp 21, Operand.tmp 24], argTypes := #[26, 26] }, type := 4, pos := "law.go:64", after := #[{ on := 2, ground := Ground.data }, { on := 5, ground := Ground.data }, { on := 5, ground := Ground.chain }], guard := none }, { dst := some 26, op := Op.move (Operand.tmp 25), type := 4, pos := "law.go:64", after := #[{ on := 6, ground := Ground.data }, { on := 6, ground := Ground.chain }], guard := none }, { dst := some 27, op := Op.move (Operand.tmp 0), type := 22, pos := "law.go:64", after := #[{ on := 7, ground := Ground.guard }], guard := some (7, true) }, { dst := some 28, op := Op.load 34 (Operand.tmp 3), type := 34, pos := "law.go:64", after := #[{ on := 7, ground := Ground.guard }], guard := some (7, true) }, { dst := some 29, op := Op.call { callee := Callee.value (Operand.func 16), args := #[Operand.tmp 27, Operand.tmp 28], argTypes := #[22, 34] }, type := 26, pos := "law.go:64", after := #[{ on := 8, ground := Ground.data }, { on := 9, ground := Ground.data }, { on := 7, ground := Ground.chain }, { on := 7, ground := Ground.guard }], guard := some (7, true) }, { dst := some 30, op := Op.move (Operand.tmp 0), type := 22, pos := "law.go:64", after := #[{ on := 7, ground := Ground.guard }], guard := some (7, true) }, { dst := some 31, op := Op.load 34 (Operand.tmp 3), type := 34, pos := "law.go:64", after := #[{ on := 7, ground := Ground.guard }], guard := some (7, true) }, { dst := some 32, op := Op.call { callee := Callee.value (Operand.func 17), args := #[Operand.tmp 30, Operand.tmp 31], argTypes := #[22, 34] }, type := 26, pos := "law.go:64", after := #[{ on := 11, ground := Ground.data }, { on := 12, ground := Ground.data }, { on := 10, ground := Ground.chain }, { on := 7, ground := Ground.guard }], guard := some (7, true) }, { dst := some 33, op := Op.call { callee := Callee.value (Operand.func 13), args := #[Operand.tmp 29, Operand.tmp 32], argTypes := #[26, 26] }, type := 4, pos := "law.go:64", after := #[{ on := 10, ground := Ground.data }, { on := 13, ground := Ground.data }, { on := 13, ground := Ground.chain }, { on := 7, ground := Ground.guard }], guard := some (7, true) }, { dst := some 34, op := Op.pick (Operand.tmp 26) (Operand.tmp 33) (Operand.const (Value.bool false)), type := 4, pos := "law.go:64", after := #[{ on := 7, ground := Ground.data }, { on := 14, ground := Ground.data }], guard := none }, { dst := some 35, op := Op.move (Operand.tmp 34), type := 4, pos := "law.go:64", after := #[{ on := 15, ground := Ground.data }, { on := 14, ground := Ground.chain }], guard := none }, { dst := some 36, op := Op.move (Operand.tmp 0), type := 22, pos := "law.go:64", after := #[{ on := 16, ground := Ground.guard }], guard := some (16, true) }, { dst := some 37, op := Op.call { callee := Callee.value (Operand.func 18), args := #[Operand.tmp 36], argTypes := #[22] }, type := 26, pos := "law.go:64", after := #[{ on := 17, ground := Ground.data }, { on := 16, ground := Ground.chain }, { on := 16, ground := Ground.guard }], guard := some (16, true) }, { dst := some 38, op := Op.move (Operand.tmp 0), type := 22, pos := "law.go:64", after := #[{ on := 16, ground := Ground.guard }], guard := some (16, true) }, { dst := some 39, op := Op.call { callee := Callee.value (Operand.func 19), args := #[Operand.tmp 38], argTypes := #[22] }, type := 26, pos := "law.go:64", after := #[{ on := 19, ground := Ground.data }, { on := 18, ground := Ground.chain }, { on := 16, ground := Ground.guard }], guard := some (16, true) }, { dst := some 40, op := Op.call { callee := Callee.value (Operand.func 13), args := #[Operand.tmp 37, Operand.tmp 39], argTypes := #[26, 26] }, type := 4, pos := "law.go:64", after := #[{ on := 18, ground := Ground.data }, { on := 20, ground := Ground.data }, { on := 20, ground := Ground.chain }, { on := 16, ground := Ground.guard }], guard := some (16, true) }, { dst := some 41, op := Op.pick (Operand.tmp 35) (Operand.tmp 40) (Operand.const (Value.bool false)), type := 4, pos := "law.go:64", after := #[{ on := 16, ground := Ground.data }, { on := 21, ground := Ground.data }], guard := none }, { dst := some 42, op := Op.move (Operand.tmp 41), type := 4, pos := "law.go:64", after := #[{ on := 22, ground := Ground.data }, { on := 21, ground := Ground.chain }], guard := none }, { dst := some 43, op := Op.move (Operand.tmp 0), type := 22, pos := "law.go:64", after := #[{ on := 23, ground := Ground.guard }], guard := some (23, true) }, { dst := some 44, op := Op.call { callee := Callee.value (Operand.func 20), args := #[Operand.tmp 43], argTypes := #[22] }, type := 4, pos := "law.go:64", after := #[{ on := 24, ground := Ground.data }, { on := 23, ground := Ground.chain }, { on := 23, ground := Ground.guard }], guard := some (23, true) }, { dst := some 45, op := Op.move (Operand.tmp 0), type := 22, pos := "law.go:64", after := #[{ on := 23, ground := Ground.guard }], guard := some (23, true) }, { dst := some 46, op := Op.call { callee := Callee.value (Operand.func 21), args := #[Operand.tmp 45], argTypes := #[22] }, type := 4, pos := "law.go:64", after := #[{ on := 26, ground := Ground.data }, { on := 25, ground := Ground.chain }, { on := 23, ground := Ground.guard }], guard := some (23, true) }, { dst := some 47, op := Op.binOp BinOp.eql 4 (Operand.tmp 44) (Operand.tmp 46) 4, type := 4, pos := "law.go:64", after := #[{ on := 25, ground := Ground.data }, { on := 27, ground := Ground.data }, { on := 23, ground := Ground.guard }], guard := some (23, true) }, { dst := some 48, op := Op.pick (Operand.tmp 42) (Operand.tmp 47) (Operand.const (Value.bool false)), type := 4, pos := "law.go:64", after := #[{ on := 23, ground := Ground.data }, { on := 28, ground := Ground.data }], guard := none }, { dst := some 49, op := Op.move (Operand.tmp 48), type := 4, pos := "law.go:64", after := #[{ on := 29, ground := Ground.data }, { on := 27, ground := Ground.chain }], guard := none }, { dst := some 50, op := Op.call { callee := Callee.value (Operand.func 9), args := #[], argTypes := #[] }, type := 4, pos := "law.go:64", after := #[{ on := 30, ground := Ground.chain }, { on := 30, ground := Ground.guard }], guard := some (30, true) }, { dst := some 51, op := Op.pick (Operand.tmp 49) (Operand.tmp 50) (Operand.const (Value.bool false)), type := 4, pos := "law.go:64", after := #[{ on := 30, ground := Ground.data }, { on := 31, ground := Ground.data }], guard := none }, { dst := some 4, op := Op.assign (Operand.tmp 51), type := 4, pos := "law.go:64", after := #[{ on := 32, ground := Ground.data }, { on := 31, ground := Ground.chain }, { on := 0, ground := Ground.phase }, { on := 1, ground := Ground.phase }, { on := 2, ground := Ground.phase }, { on := 3, ground := Ground.phase }, { on := 4, ground := Ground.phase }, { on := 5, ground := Ground.phase }, { on := 6, ground := Ground.phase }, { on := 7, ground := Ground.phase }, { on := 8, ground := Ground.phase }, { on := 9, ground := Ground.phase }, { on := 10, ground := Ground.phase }, { on := 11, ground := Ground.phase }, { on := 12, ground := Ground.phase }, { on := 13, ground := Ground.phase }, { on := 14, ground := Ground.phase }, { on := 15, ground := Ground.phase }, { on := 16, ground := Ground.phase }, { on := 17, ground := Ground.phase }, { on := 18, ground := Ground.phase }, { on := 19, ground := Ground.phase }, { on := 20, ground := Ground.phase }, { on := 21, ground := Ground.phase }, { on := 22, ground := Ground.phase }, { on := 23, ground := Ground.phase }, { on := 24, ground := Ground.phase }, { on := 25, ground := Ground.phase }, { on := 26, ground := Ground.phase }, { on := 27, ground := Ground.phase }, { on := 28, ground := Ground.phase }, { on := 29, ground := Ground.phase }, { on := 30, ground := Ground.phase }, { on := 31, ground := Ground.phase }, { on := 32, ground := Ground.phase }], guard := none }] true).wp Try.prog Q { tmps := #[.slice a len cap, x1, x2, .pointer (some ⟨hb, 0, none⟩), x4, x5, x6, x7, x8, x9, x10, x11, x12, x13, x14, x15, x16, x17, x18, x19, x20, x21, x22, x23, x24, x25, x26, x27, x28, x29, x30, x31, x32, x33, x34, x35, x36, x37, x38, x39, x40, x41, x42, x43, x44, x45, x46, x47, x48, x49, x50, x51], defers := ds } A := by
  refine Code.wp_mono (Q := fun x a' w' => match x with | .normal => Q .normal a' w' | _ => False) (by intro x a' w' h; cases x <;> first | exact h | exact h.elim) ?_
  refine wp_region_held (S := fun V => Below A.heap.size A V) (by kernel_rfl) ?_
  have hS0 : Hid (Below A.heap.size A A.drew) := below_drew A
  change wpAnyH Try.prog .any _ _ (fun V => Below A.heap.size A V) 34 (Array.replicate 34 false) _ A.drew
  refine wpAnyH_take (i := 0) (oi := { dst := some 19, op := Op.move (Operand.tmp 0), type := 22, pos := "law.go:64", after := #[], guard := none }) (v := .slice a len cap) rfl (by kernel_rfl) (by kernel_rfl) (by kernel_rfl) (fun _ _ _ h => h.elim) (Or.inl ⟨by rfl, ?y0⟩) hS0.out ?_
  case y0 =>
    intro V hV
    go_simp
  simp only [Act.put, List.setIfInBounds_toArray, List.set_cons_zero, List.set_cons_succ]
  refine wpAnyH_take (i := 1) (oi := { dst := some 20, op := Op.load 34 (Operand.tmp 3), type := 34, pos := "law.go:64", after := #[], guard := none }) (v := .agg (U h).toArray) rfl (by kernel_rfl) (by kernel_rfl) (by kernel_rfl) (fun _ _ _ h => h.elim) (yieldsIf_load_mid (by rfl) _ _ rfl _ _ rfl (U h) _ (fun V hV => rangeAt_same (HK.out.1) ((show Below A.heap.size A V from hV).block _ (HK.out.2))) Try.underlying34 rfl (info34 h HI.out.2.1)) hS0.out ?_
  simp only [Act.put, List.setIfInBounds_toArray, List.set_cons_zero, List.set_cons_succ]
  refine wpAnyH_take (i := 3) (oi := { dst := some 22, op := Op.move (Operand.tmp 0), type := 22, pos := "law.go:64", after := #[], guard := none }) (v := .slice a len cap) rfl (by kernel_rfl) (by kernel_rfl) (by kernel_rfl) (fun _ _ _ h => h.elim) (Or.inl ⟨by rfl, ?y3⟩) hS0.out ?_
  case y3 =>
    intro V hV
    go_simp
  simp only [Act.put, List.setIfInBounds_toArray, List.set_cons_zero, List.set_cons_succ]
  refine wpAnyH_take (i := 4) (oi := { dst := some 23, op := Op.load 34 (Operand.tmp 3), type := 34, pos := "law.go:64", after := #[], guard := none }) (v := .agg (U h).toArray) rfl (by kernel_rfl) (by kernel_rfl) (by kernel_rfl) (fun _ _ _ h => h.elim) (yieldsIf_load_mid (by rfl) _ _ rfl _ _ rfl (U h) _ (fun V hV => rangeAt_same (HK.out.1) ((show Below A.heap.size A V from hV).block _ (HK.out.2))) Try.underlying34 rfl (info34 h HI.out.2.1)) hS0.out ?_
  simp only [Act.put, List.setIfInBounds_toArray, List.set_cons_zero, List.set_cons_succ]
  refine wpAnyH_ready (rs := [2]) (by kernel_rfl) (by simp) (AllReadyH.cons (i := 2) (o := { dst := some 21, op := Op.call { callee := Callee.value (Operand.func 14), args := #[Operand.tmp 19, Operand.tmp 20], argTypes := #[22, 34] }, type := 26, pos := "law.go:64", after := #[{ on := 0, ground := Ground.data }, { on := 1, ground := Ground.data }], guard := none }) rfl ?_ AllReadyH.nil)
  intro K1 hK1
  rw [if_pos (by rfl)]
  have HC1 := needs_is A.drew a len cap l h (HI.out.1.below hS0.out) HI.out.2.1 HI.out.2.2.1 HI.out.2.2.2.1
  go_wp2_with fail
  refine HC1.mono ?_
  rintro e V1 ⟨p1, n1, c1, r1, rfl, H1, HB1⟩
  dsimp only
  clear HC1
  have hS1 : Hid (Below A.heap.size A V1) := hS0.out.trans (HB1.out.mono hS0.out.size)
  refine hK1.out _ _ hS1.out ?_
  clear hK1
  intro _
  try simp only [Act.put, List.setIfInBounds_toArray, List.set_cons_zero, List.set_cons_succ]
  refine wpAnyH_ready (rs := [5]) (by kernel_rfl) (by simp) (AllReadyH.cons (i := 5) (o := { dst := some 24, op := Op.call { callee := Callee.value (Operand.func 15), args := #[Operand.tmp 22, Operand.tmp 23], argTypes := #[22, 34] }, type := 26, pos := "law.go:64", after := #[{ on := 3, ground := Ground.data }, { on := 4, ground := Ground.data }, { on := 2, ground := Ground.chain }], guard := none }) rfl ?_ AllReadyH.nil)
  intro K1 hK1
  rw [if_pos (by rfl)]
  have HC2 := rneeds_is V1 a len cap l h (HI.out.1.below hS1.out) HI.out.2.1 HI.out.2.2.1 HI.out.2.2.2.1
  go_wp2_with fail
  refine HC2.mono ?_
  rintro e V2 ⟨p2, n2, c2, r2, rfl, H2, HB2⟩
  dsimp only
  clear HC2
  have hS2 : Hid (Below A.heap.size A V2) := hS1.out.trans (HB2.out.mono hS1.out.size)
  obtain rfl : r1 = r2 := rise_eq H1.out.2.2.1 H2.out.2.2.1 (fun x => by rw [H1.out.2.2.2, H2.out.2.2.2])
  refine hK1.out _ _ hS2.out ?_
  clear hK1
  intro _
  try simp only [Act.put, List.setIfInBounds_toArray, List.set_cons_zero, List.set_cons_succ]
  refine wpAnyH_ready (rs := [6]) (by kernel_rfl) (by simp) (AllReadyH.cons (i := 6) (o := { dst := some 25, op := Op.call { callee := Callee.value (Operand.func 13), args := #[Operand.tmp 21, Operand.tmp 24], argTypes := #[26, 26] }, type := 4, pos := "law.go:64", after := #[{ on := 2, ground := Ground.data }, { on := 5, ground := Ground.data }, { on := 5, ground := Ground.chain }], guard := none }) rfl ?_ AllReadyH.nil)
  intro K1 hK1
  rw [if_pos (by rfl)]
  have HC3 := hashes_true V2 p1 n1 c1 p2 n2 c2 r1 (H1.out.1.below HB2.out) H2.out.1 H1.out.2.1 H2.out.2.1
  go_wp2_with fail
  refine HC3.mono ?_
  rintro e V3 ⟨rfl, HB3⟩
  dsimp only
  clear HC3
  have hS3 : Hid (Below A.heap.size A V3) := hS2.out.trans (HB3.out.mono hS2.out.size)
  refine hK1.out _ _ hS3.out ?_
  clear hK1
  intro _
  try simp only [Act.put, List.setIfInBounds_toArray, List.set_cons_zero, List.set_cons_succ]
  refine wpAnyH_take (i := 7) (oi := { dst := some 26, op := Op.move (Operand.tmp 25), type := 4, pos := "law.go:64", after := #[{ on := 6, ground := Ground.data }, { on := 6, ground := Ground.chain }], guard := none }) (v := .bool true) rfl (by kernel_rfl) (by kernel_rfl) (by kernel_rfl) (fun _ _ _ h => h.elim) (Or.inl ⟨by rfl, ?y7⟩) hS3.out ?_
  case y7 =>
    intro V hV
    go_simp
  simp only [Act.put, List.setIfInBounds_toArray, List.set_cons_zero, List.set_cons_succ]
  refine wpAnyH_take (i := 8) (oi := { dst := some 27, op := Op.move (Operand.tmp 0), type := 22, pos := "law.go:64", after := #[{ on := 7, ground := Ground.guard }], guard := some (7, true) }) (v := .slice a len cap) rfl (by kernel_rfl) (by kernel_rfl) (by kernel_rfl) (fun _ _ _ h => h.elim) (Or.inl ⟨by rfl, ?y8⟩) hS3.out ?_
  case y8 =>
    intro V hV
    go_simp
  simp only [Act.put, List.setIfInBounds_toArray, List.set_cons_zero, List.set_cons_succ]
  refine wpAnyH_take (i := 9) (oi := { dst := some 28, op := Op.load 34 (Operand.tmp 3), type := 34, pos := "law.go:64", after := #[{ on := 7, ground := Ground.guard }], guard := some (7, true) }) (v := .agg (U h).toArray) rfl (by kernel_rfl) (by kernel_rfl) (by kernel_rfl) (fun _ _ _ h => h.elim) (yieldsIf_load_mid (by rfl) _ _ rfl _ _ rfl (U h) _ (fun V hV => rangeAt_same (HK.out.1) ((show Below A.heap.size A V from hV).block _ (HK.out.2))) Try.underlying34 rfl (info34 h HI.out.2.1)) hS3.out ?_
  simp only [Act.put, List.setIfInBounds_toArray, List.set_cons_zero, List.set_cons_succ]
  refine wpAnyH_take (i := 11) (oi := { dst := some 30, op := Op.move (Operand.tmp 0), type := 22, pos := "law.go:64", after := #[{ on := 7, ground := Ground.guard }], guard := some (7, true) }) (v := .slice a len cap) rfl (by kernel_rfl) (by kernel_rfl) (by kernel_rfl) (fun _ _ _ h => h.elim) (Or.inl ⟨by rfl, ?y11⟩) hS3.out ?_
  case y11 =>
    intro V hV
    go_simp
  simp only [Act.put, List.setIfInBounds_toArray, List.set_cons_zero, List.set_cons_succ]
  refine wpAnyH_take (i := 12) (oi := { dst := some 31, op := Op.load 34 (Operand.tmp 3), type := 34, pos := "law.go:64", after := #[{ on := 7, ground := Ground.guard }], guard := some (7, true) }) (v := .agg (U h).toArray) rfl (by kernel_rfl) (by kernel_rfl) (by kernel_rfl) (fun _ _ _ h => h.elim) (yieldsIf_load_mid (by rfl) _ _ rfl _ _ rfl (U h) _ (fun V hV => rangeAt_same (HK.out.1) ((show Below A.heap.size A V from hV).block _ (HK.out.2))) Try.underlying34 rfl (info34 h HI.out.2.1)) hS3.out ?_
  simp only [Act.put, List.setIfInBounds_toArray, List.set_cons_zero, List.set_cons_succ]
  refine wpAnyH_ready (rs := [10]) (by kernel_rfl) (by simp) (AllReadyH.cons (i := 10) (o := { dst := some 29, op := Op.call { callee := Callee.value (Operand.func 16), args := #[Operand.tmp 27, Operand.tmp 28], argTypes := #[22, 34] }, type := 26, pos := "law.go:64", after := #[{ on := 8, ground := Ground.data }, { on := 9, ground := Ground.data }, { on := 7, ground := Ground.chain }, { on := 7, ground := Ground.guard }], guard := some (7, true) }) rfl ?_ AllReadyH.nil)
  intro K1 hK1
  rw [if_pos (by rfl)]
  have HC4 := above_is V3 a len cap l h (HI.out.1.below hS3.out) HI.out.2.1 HI.out.2.2.1 HI.out.2.2.2.1
  go_wp2_with fail
  refine HC4.mono ?_
  rintro e V4 ⟨p3, n3, c3, r3, rfl, H3, HB4⟩
  dsimp only
  clear HC4
  have hS4 : Hid (Below A.heap.size A V4) := hS3.out.trans (HB4.out.mono hS3.out.size)
  refine hK1.out _ _ hS4.out ?_
  clear hK1
  intro _
  try simp only [Act.put, List.setIfInBounds_toArray, List.set_cons_zero, List.set_cons_succ]
  refine wpAnyH_ready (rs := [13]) (by kernel_rfl) (by simp) (AllReadyH.cons (i := 13) (o := { dst := some 32, op := Op.call { callee := Callee.value (Operand.func 17), args := #[Operand.tmp 30, Operand.tmp 31], argTypes := #[22, 34] }, type := 26, pos := "law.go:64", after := #[{ on := 11, ground := Ground.data }, { on := 12, ground := Ground.data }, { on := 10, ground := Ground.chain }, { on := 7, ground := Ground.guard }], guard := some (7, true) }) rfl ?_ AllReadyH.nil)
  intro K1 hK1
  rw [if_pos (by rfl)]
  have HC5 := rabove_is V4 a len cap l h (HI.out.1.below hS4.out) HI.out.2.1 HI.out.2.2.1 HI.out.2.2.2.1
  go_wp2_with fail
  refine HC5.mono ?_
  rintro e V5 ⟨p4, n4, c4, r4, rfl, H4, HB5⟩
  dsimp only
  clear HC5
  have hS5 : Hid (Below A.heap.size A V5) := hS4.out.trans (HB5.out.mono hS4.out.size)
  obtain rfl : r3 = r4 := rise_eq H3.out.2.2.1 H4.out.2.2.1 (fun x => by rw [H3.out.2.2.2, H4.out.2.2.2])
  refine hK1.out _ _ hS5.out ?_
  clear hK1
  intro _
  try simp only [Act.put, List.setIfInBounds_toArray, List.set_cons_zero, List.set_cons_succ]
  refine wpAnyH_ready (rs := [14]) (by kernel_rfl) (by simp) (AllReadyH.cons (i := 14) (o := { dst := some 33, op := Op.call { callee := Callee.value (Operand.func 13), args := #[Operand.tmp 29, Operand.tmp 32], argTypes := #[26, 26] }, type := 4, pos := "law.go:64", after := #[{ on := 10, ground := Ground.data }, { on := 13, ground := Ground.data }, { on := 13, ground := Ground.chain }, { on := 7, ground := Ground.guard }], guard := some (7, true) }) rfl ?_ AllReadyH.nil)
  intro K1 hK1
  rw [if_pos (by rfl)]
  have HC6 := hashes_true V5 p3 n3 c3 p4 n4 c4 r3 (H3.out.1.below HB5.out) H4.out.1 H3.out.2.1 H4.out.2.1
  go_wp2_with fail
  refine HC6.mono ?_
  rintro e V6 ⟨rfl, HB6⟩
  dsimp only
  clear HC6
  have hS6 : Hid (Below A.heap.size A V6) := hS5.out.trans (HB6.out.mono hS5.out.size)
  refine hK1.out _ _ hS6.out ?_
  clear hK1
  intro _
  try simp only [Act.put, List.setIfInBounds_toArray, List.set_cons_zero, List.set_cons_succ]
  refine wpAnyH_take (i := 15) (oi := { dst := some 34, op := Op.pick (Operand.tmp 26) (Operand.tmp 33) (Operand.const (Value.bool false)), type := 4, pos := "law.go:64", after := #[{ on := 7, ground := Ground.data }, { on := 14, ground := Ground.data }], guard := none }) (v := .bool true) rfl (by kernel_rfl) (by kernel_rfl) (by kernel_rfl) (fun _ _ _ h => h.elim) (Or.inl ⟨by rfl, ?y15⟩) hS6.out ?_
  case y15 =>
    intro V hV
    go_simp
  simp only [Act.put, List.setIfInBounds_toArray, List.set_cons_zero, List.set_cons_succ]
  refine wpAnyH_take (i := 16) (oi := { dst := some 35, op := Op.move (Operand.tmp 34), type := 4, pos := "law.go:64", after := #[{ on := 15, ground := Ground.data }, { on := 14, ground := Ground.chain }], guard := none }) (v := .bool true) rfl (by kernel_rfl) (by kernel_rfl) (by kernel_rfl) (fun _ _ _ h => h.elim) (Or.inl ⟨by rfl, ?y16⟩) hS6.out ?_
  case y16 =>
    intro V hV
    go_simp
  simp only [Act.put, List.setIfInBounds_toArray, List.set_cons_zero, List.set_cons_succ]
  refine wpAnyH_take (i := 17) (oi := { dst := some 36, op := Op.move (Operand.tmp 0), type := 22, pos := "law.go:64", after := #[{ on := 16, ground := Ground.guard }], guard := some (16, true) }) (v := .slice a len cap) rfl (by kernel_rfl) (by kernel_rfl) (by kernel_rfl) (fun _ _ _ h => h.elim) (Or.inl ⟨by rfl, ?y17⟩) hS6.out ?_
  case y17 =>
    intro V hV
    go_simp
  simp only [Act.put, List.setIfInBounds_toArray, List.set_cons_zero, List.set_cons_succ]
  refine wpAnyH_take (i := 19) (oi := { dst := some 38, op := Op.move (Operand.tmp 0), type := 22, pos := "law.go:64", after := #[{ on := 16, ground := Ground.guard }], guard := some (16, true) }) (v := .slice a len cap) rfl (by kernel_rfl) (by kernel_rfl) (by kernel_rfl) (fun _ _ _ h => h.elim) (Or.inl ⟨by rfl, ?y19⟩) hS6.out ?_
  case y19 =>
    intro V hV
    go_simp
  simp only [Act.put, List.setIfInBounds_toArray, List.set_cons_zero, List.set_cons_succ]
  refine wpAnyH_ready (rs := [18]) (by kernel_rfl) (by simp) (AllReadyH.cons (i := 18) (o := { dst := some 37, op := Op.call { callee := Callee.value (Operand.func 18), args := #[Operand.tmp 36], argTypes := #[22] }, type := 26, pos := "law.go:64", after := #[{ on := 17, ground := Ground.data }, { on := 16, ground := Ground.chain }, { on := 16, ground := Ground.guard }], guard := some (16, true) }) rfl ?_ AllReadyH.nil)
  intro K1 hK1
  rw [if_pos (by rfl)]
  have HC7 := missing_is V6 a len cap l (HI.out.1.below hS6.out) HI.out.2.2.1 HI.out.2.2.2.1
  go_wp2_with fail
  refine HC7.mono ?_
  rintro e V7 ⟨p5, n5, c5, r5, rfl, H5, HB7⟩
  dsimp only
  clear HC7
  have hS7 : Hid (Below A.heap.size A V7) := hS6.out.trans (HB7.out.mono hS6.out.size)
  refine hK1.out _ _ hS7.out ?_
  clear hK1
  intro _
  try simp only [Act.put, List.setIfInBounds_toArray, List.set_cons_zero, List.set_cons_succ]
  refine wpAnyH_ready (rs := [20]) (by kernel_rfl) (by simp) (AllReadyH.cons (i := 20) (o := { dst := some 39, op := Op.call { callee := Callee.value (Operand.func 19), args := #[Operand.tmp 38], argTypes := #[22] }, type := 26, pos := "law.go:64", after := #[{ on := 19, ground := Ground.data }, { on := 18, ground := Ground.chain }, { on := 16, ground := Ground.guard }], guard := some (16, true) }) rfl ?_ AllReadyH.nil)
  intro K1 hK1
  rw [if_pos (by rfl)]
  have HC8 := rmissing_is V7 a len cap l (HI.out.1.below hS7.out) HI.out.2.2.1 HI.out.2.2.2.1
  go_wp2_with fail
  refine HC8.mono ?_
  rintro e V8 ⟨p6, n6, c6, r6, rfl, H6, HB8⟩
  dsimp only
  clear HC8
  have hS8 : Hid (Below A.heap.size A V8) := hS7.out.trans (HB8.out.mono hS7.out.size)
  obtain rfl : r5 = r6 := rise_eq H5.out.2.2.1 H6.out.2.2.1 (fun x => by rw [H5.out.2.2.2, H6.out.2.2.2])
  refine hK1.out _ _ hS8.out ?_
  clear hK1
  intro _
  try simp only [Act.put, List.setIfInBounds_toArray, List.set_cons_zero, List.set_cons_succ]
  refine wpAnyH_ready (rs := [21]) (by kernel_rfl) (by simp) (AllReadyH.cons (i := 21) (o := { dst := some 40, op := Op.call { callee := Callee.value (Operand.func 13), args := #[Operand.tmp 37, Operand.tmp 39], argTypes := #[26, 26] }, type := 4, pos := "law.go:64", after := #[{ on := 18, ground := Ground.data }, { on := 20, ground := Ground.data }, { on := 20, ground := Ground.chain }, { on := 16, ground := Ground.guard }], guard := some (16, true) }) rfl ?_ AllReadyH.nil)
  intro K1 hK1
  rw [if_pos (by rfl)]
  have HC9 := hashes_true V8 p5 n5 c5 p6 n6 c6 r5 (H5.out.1.below HB8.out) H6.out.1 H5.out.2.1 H6.out.2.1
  go_wp2_with fail
  refine HC9.mono ?_
  rintro e V9 ⟨rfl, HB9⟩
  dsimp only
  clear HC9
  have hS9 : Hid (Below A.heap.size A V9) := hS8.out.trans (HB9.out.mono hS8.out.size)
  refine hK1.out _ _ hS9.out ?_
  clear hK1
  intro _
  try simp only [Act.put, List.setIfInBounds_toArray, List.set_cons_zero, List.set_cons_succ]
  refine wpAnyH_take (i := 22) (oi := { dst := some 41, op := Op.pick (Operand.tmp 35) (Operand.tmp 40) (Operand.const (Value.bool false)), type := 4, pos := "law.go:64", after := #[{ on := 16, ground := Ground.data }, { on := 21, ground := Ground.data }], guard := none }) (v := .bool true) rfl (by kernel_rfl) (by kernel_rfl) (by kernel_rfl) (fun _ _ _ h => h.elim) (Or.inl ⟨by rfl, ?y22⟩) hS9.out ?_
  case y22 =>
    intro V hV
    go_simp
  simp only [Act.put, List.setIfInBounds_toArray, List.set_cons_zero, List.set_cons_succ]
  refine wpAnyH_take (i := 23) (oi := { dst := some 42, op := Op.move (Operand.tmp 41), type := 4, pos := "law.go:64", after := #[{ on := 22, ground := Ground.data }, { on := 21, ground := Ground.chain }], guard := none }) (v := .bool true) rfl (by kernel_rfl) (by kernel_rfl) (by kernel_rfl) (fun _ _ _ h => h.elim) (Or.inl ⟨by rfl, ?y23⟩) hS9.out ?_
  case y23 =>
    intro V hV
    go_simp
  simp only [Act.put, List.setIfInBounds_toArray, List.set_cons_zero, List.set_cons_succ]
  refine wpAnyH_take (i := 24) (oi := { dst := some 43, op := Op.move (Operand.tmp 0), type := 22, pos := "law.go:64", after := #[{ on := 23, ground := Ground.guard }], guard := some (23, true) }) (v := .slice a len cap) rfl (by kernel_rfl) (by kernel_rfl) (by kernel_rfl) (fun _ _ _ h => h.elim) (Or.inl ⟨by rfl, ?y24⟩) hS9.out ?_
  case y24 =>
    intro V hV
    go_simp
  simp only [Act.put, List.setIfInBounds_toArray, List.set_cons_zero, List.set_cons_succ]
  refine wpAnyH_take (i := 26) (oi := { dst := some 45, op := Op.move (Operand.tmp 0), type := 22, pos := "law.go:64", after := #[{ on := 23, ground := Ground.guard }], guard := some (23, true) }) (v := .slice a len cap) rfl (by kernel_rfl) (by kernel_rfl) (by kernel_rfl) (fun _ _ _ h => h.elim) (Or.inl ⟨by rfl, ?y26⟩) hS9.out ?_
  case y26 =>
    intro V hV
    go_simp
  simp only [Act.put, List.setIfInBounds_toArray, List.set_cons_zero, List.set_cons_succ]
  refine wpAnyH_ready (rs := [25]) (by kernel_rfl) (by simp) (AllReadyH.cons (i := 25) (o := { dst := some 44, op := Op.call { callee := Callee.value (Operand.func 20), args := #[Operand.tmp 43], argTypes := #[22] }, type := 4, pos := "law.go:64", after := #[{ on := 24, ground := Ground.data }, { on := 23, ground := Ground.chain }, { on := 23, ground := Ground.guard }], guard := some (23, true) }) rfl ?_ AllReadyH.nil)
  intro K1 hK1
  rw [if_pos (by rfl)]
  have HC10 := closed_is V9 a len cap l (HI.out.1.below hS9.out) HI.out.2.2.1 HI.out.2.2.2.1
  go_wp2_with fail
  refine HC10.mono ?_
  rintro e V10 ⟨b1, rfl, G1, HB10⟩
  dsimp only
  clear HC10
  have hS10 : Hid (Below A.heap.size A V10) := hS9.out.trans (HB10.out.mono hS9.out.size)
  refine hK1.out _ _ hS10.out ?_
  clear hK1
  intro _
  try simp only [Act.put, List.setIfInBounds_toArray, List.set_cons_zero, List.set_cons_succ]
  refine wpAnyH_ready (rs := [27]) (by kernel_rfl) (by simp) (AllReadyH.cons (i := 27) (o := { dst := some 46, op := Op.call { callee := Callee.value (Operand.func 21), args := #[Operand.tmp 45], argTypes := #[22] }, type := 4, pos := "law.go:64", after := #[{ on := 26, ground := Ground.data }, { on := 25, ground := Ground.chain }, { on := 23, ground := Ground.guard }], guard := some (23, true) }) rfl ?_ AllReadyH.nil)
  intro K1 hK1
  rw [if_pos (by rfl)]
  have HC11 := rclosed_is V10 a len cap l (HI.out.1.below hS10.out) HI.out.2.2.2.2 HI.out.2.2.1 HI.out.2.2.2.1
  go_wp2_with fail
  refine HC11.mono ?_
  rintro e V11 ⟨b2, rfl, G2, HB11⟩
  dsimp only
  clear HC11
  have hS11 : Hid (Below A.heap.size A V11) := hS10.out.trans (HB11.out.mono hS10.out.size)
  obtain rfl : b1 = b2 := by rw [Bool.eq_iff_iff, G1.out, G2.out]
  refine hK1.out _ _ hS11.out ?_
  clear hK1
  intro _
  try simp only [Act.put, List.setIfInBounds_toArray, List.set_cons_zero, List.set_cons_succ]
  refine wpAnyH_take (i := 28) (oi := { dst := some 47, op := Op.binOp BinOp.eql 4 (Operand.tmp 44) (Operand.tmp 46) 4, type := 4, pos := "law.go:64", after := #[{ on := 25, ground := Ground.data }, { on := 27, ground := Ground.data }, { on := 23, ground := Ground.guard }], guard := some (23, true) }) (v := .bool true) rfl (by kernel_rfl) (by kernel_rfl) (by kernel_rfl) (fun _ _ _ h => h.elim) (Or.inl ⟨by rfl, ?y28⟩) hS11.out ?_
  case y28 =>
    intro V hV
    go_simp
  simp only [Act.put, List.setIfInBounds_toArray, List.set_cons_zero, List.set_cons_succ]
  refine wpAnyH_take (i := 29) (oi := { dst := some 48, op := Op.pick (Operand.tmp 42) (Operand.tmp 47) (Operand.const (Value.bool false)), type := 4, pos := "law.go:64", after := #[{ on := 23, ground := Ground.data }, { on := 28, ground := Ground.data }], guard := none }) (v := .bool true) rfl (by kernel_rfl) (by kernel_rfl) (by kernel_rfl) (fun _ _ _ h => h.elim) (Or.inl ⟨by rfl, ?y29⟩) hS11.out ?_
  case y29 =>
    intro V hV
    go_simp
  simp only [Act.put, List.setIfInBounds_toArray, List.set_cons_zero, List.set_cons_succ]
  refine wpAnyH_take (i := 30) (oi := { dst := some 49, op := Op.move (Operand.tmp 48), type := 4, pos := "law.go:64", after := #[{ on := 29, ground := Ground.data }, { on := 27, ground := Ground.chain }], guard := none }) (v := .bool true) rfl (by kernel_rfl) (by kernel_rfl) (by kernel_rfl) (fun _ _ _ h => h.elim) (Or.inl ⟨by rfl, ?y30⟩) hS11.out ?_
  case y30 =>
    intro V hV
    go_simp
  simp only [Act.put, List.setIfInBounds_toArray, List.set_cons_zero, List.set_cons_succ]
  refine wpAnyH_ready (rs := [31]) (by kernel_rfl) (by simp) (AllReadyH.cons (i := 31) (o := { dst := some 50, op := Op.call { callee := Callee.value (Operand.func 9), args := #[], argTypes := #[] }, type := 4, pos := "law.go:64", after := #[{ on := 30, ground := Ground.chain }, { on := 30, ground := Ground.guard }], guard := some (30, true) }) rfl ?_ AllReadyH.nil)
  intro K1 hK1
  rw [if_pos (by rfl)]
  have HC12 := lives_is V11
  go_wp2_with fail
  refine HC12.mono ?_
  rintro e V12 ⟨rfl, HB12⟩
  dsimp only
  clear HC12
  have hS12 : Hid (Below A.heap.size A V12) := hS11.out.trans (HB12.out.mono hS11.out.size)
  refine hK1.out _ _ hS12.out ?_
  clear hK1
  intro _
  try simp only [Act.put, List.setIfInBounds_toArray, List.set_cons_zero, List.set_cons_succ]
  refine wpAnyH_take (i := 32) (oi := { dst := some 51, op := Op.pick (Operand.tmp 49) (Operand.tmp 50) (Operand.const (Value.bool false)), type := 4, pos := "law.go:64", after := #[{ on := 30, ground := Ground.data }, { on := 31, ground := Ground.data }], guard := none }) (v := .bool true) rfl (by kernel_rfl) (by kernel_rfl) (by kernel_rfl) (fun _ _ _ h => h.elim) (Or.inl ⟨by rfl, ?y32⟩) hS12.out ?_
  case y32 =>
    intro V hV
    go_simp
  simp only [Act.put, List.setIfInBounds_toArray, List.set_cons_zero, List.set_cons_succ]
  refine wpAnyH_take (i := 33) (oi := { dst := some 4, op := Op.assign (Operand.tmp 51), type := 4, pos := "law.go:64", after := #[{ on := 32, ground := Ground.data }, { on := 31, ground := Ground.chain }, { on := 0, ground := Ground.phase }, { on := 1, ground := Ground.phase }, { on := 2, ground := Ground.phase }, { on := 3, ground := Ground.phase }, { on := 4, ground := Ground.phase }, { on := 5, ground := Ground.phase }, { on := 6, ground := Ground.phase }, { on := 7, ground := Ground.phase }, { on := 8, ground := Ground.phase }, { on := 9, ground := Ground.phase }, { on := 10, ground := Ground.phase }, { on := 11, ground := Ground.phase }, { on := 12, ground := Ground.phase }, { on := 13, ground := Ground.phase }, { on := 14, ground := Ground.phase }, { on := 15, ground := Ground.phase }, { on := 16, ground := Ground.phase }, { on := 17, ground := Ground.phase }, { on := 18, ground := Ground.phase }, { on := 19, ground := Ground.phase }, { on := 20, ground := Ground.phase }, { on := 21, ground := Ground.phase }, { on := 22, ground := Ground.phase }, { on := 23, ground := Ground.phase }, { on := 24, ground := Ground.phase }, { on := 25, ground := Ground.phase }, { on := 26, ground := Ground.phase }, { on := 27, ground := Ground.phase }, { on := 28, ground := Ground.phase }, { on := 29, ground := Ground.phase }, { on := 30, ground := Ground.phase }, { on := 31, ground := Ground.phase }, { on := 32, ground := Ground.phase }], guard := none }) (v := .bool true) rfl (by kernel_rfl) (by kernel_rfl) (by kernel_rfl) (fun _ _ _ h => h.elim) (Or.inl ⟨by rfl, ?y33⟩) hS12.out ?_
  case y33 =>
    intro V hV
    go_simp
  simp only [Act.put, List.setIfInBounds_toArray, List.set_cons_zero, List.set_cons_succ]
  refine wpAnyH_done (by kernel_rfl) ?_ _
  exact hQ p1 n1 c1 p2 n2 c2 p3 n3 c3 p4 n4 c4 p5 n5 c5 p6 n6 c6 b1 V12 hS12.out
end Go.Proofs.Ytijkpkcopjkhkaa.Oct

/- Layer 12 (deps): DepsTells. -/
namespace Go.Proofs.Ytijkpkcopjkhkaa.Oct
open Go.RowKit

set_option maxRecDepth 100000 in
set_option maxHeartbeats 4000000 in
theorem tells_law (l : List It) (a : Option Addr) (len cap : Nat) (h : Hs) (w : World) (hi : Its w a len l) (hc : len ≤ cap ∧ cap ≤ maxLen) (hl : h.length = 32) :
    Calls Try.prog 4 #[.slice a len cap, .agg (U h).toArray] w (Law w) := by
  obtain ⟨W, hW⟩ : ∃ W, w.alloc (.cells (U h).toArray 34) = W := ⟨_, rfl⟩
  have HB : Hid (Below w.heap.size w W ∧ W.rangeAt w.heap.size 0 (U h) ∧ w.heap.size < W.heap.size) := ⟨by rw [← hW]; exact (Below.refl _ w).alloc (Nat.le_refl _) _, by rw [← hW]; exact new34 w h, by rw [← hW]; simp⟩
  have HW : Hid (w.alloc (.cells (U h).toArray 34) = W) := hW
  have HI : Hid (Its W a len l ∧ h.length = 32 ∧ len ≤ cap) := ⟨hi.below HB.out.1, hl, hc.1⟩
  have H8 : Hid (Calls Try.prog 8 #[.slice a len cap] W (LightP W len l)) := light_is W a len cap l (hi.below HB.out.1) hc
  have q5 : (len : Int) ≤ 9223372036854775807 := by have h1 := hc.1; have h2 := hc.2; unfold maxLen at h2; omega
  clear hW hi hl hc
  go_enter Try.func4, Try.ntmps4
  go_wp2_with fail
  rw [HW.out]
  refine H8.out.mono ?_
  rintro e w' ⟨b, rfl, HL, rfl⟩
  cases b with
  | false =>
    go_wp2_with fail
    refine (lives_is W).mono ?_
    rintro e w1 ⟨rfl, HB1⟩
    go_wp2
    go_ret
    exact ⟨rfl, bt HB.out.1 HB1.out⟩
  | true =>
    have HM : Hid (len ≤ 300 ∧ many l ≤ 90000) := ⟨(HL.out rfl).1, by have := (HL.out rfl).2; omega⟩
    clear HL
    by_cases h60 : 60 < len
    · have q1 : (60 : Int) < (len : Int) := by omega
      by_cases h256 : len ≤ 256
      · have q2 : (len : Int) ≤ 256 := by omega
        clear h60 h256
        go_wp2_with fail
        refine (lives_is W).mono ?_
        rintro e w1 ⟨rfl, HB1⟩
        go_wp2
        go_ret
        exact ⟨rfl, bt HB.out.1 HB1.out⟩
      · have q2 : ¬ (len : Int) ≤ 256 := by omega
        clear h60 h256
        go_wp2
        refine tells_region (l := l) (h := h) ⟨HB.out.2.1, HB.out.2.2⟩ ⟨HI.out.1, HI.out.2.1, by have := HM.out.1; omega, HM.out.2, HI.out.2.2⟩ ?_
        intro p1 n1 c1 p2 n2 c2 p3 n3 c3 p4 n4 c4 p5 n5 c5 p6 n6 c6 b1 V5 hV5
        have HV5 : Hid (Below w.heap.size w V5) := bt HB.out.1 hV5
        clear hV5
        go_wp2
        go_ret
        exact ⟨rfl, HV5.out⟩
    · have q1 : ¬ (60 : Int) < (len : Int) := by omega
      clear h60
      go_wp2
      refine tells_region (l := l) (h := h) ⟨HB.out.2.1, HB.out.2.2⟩ ⟨HI.out.1, HI.out.2.1, by have := HM.out.1; omega, HM.out.2, HI.out.2.2⟩ ?_
      intro p1 n1 c1 p2 n2 c2 p3 n3 c3 p4 n4 c4 p5 n5 c5 p6 n6 c6 b1 V5 hV5
      have HV5 : Hid (Below w.heap.size w V5) := bt HB.out.1 hV5
      clear hV5
      go_wp2
      go_ret
      exact ⟨rfl, HV5.out⟩
end Go.Proofs.Ytijkpkcopjkhkaa.Oct
