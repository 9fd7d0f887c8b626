/-
  Layer 12 (deps): the reference: Above: its condition, whatever its order.
  Layer 12 (deps): the reference: Above.
  Layer 12 (deps): DepsTells: its last statement, whatever its order.
  Layer 12 (deps): DepsTells.
  Layer 12 (deps): the reference: ready.
  Layer 12 (deps): the reference: Order: its choice, whatever its order.
  Layer 12 (deps): DepsBehind: its drawn statement, whatever its order.
  Layer 12 (deps): DepsBehind.
  Layer 12 (deps): the reference: Order.
  Layer 12 (deps): rows of items that are made.
-/
import Derived.Test.YtijkpkcopjkhkaaMo5
/- Layer 12 (deps): the reference: Above: its condition, whatever its order. -/
namespace Go.Proofs.Ytijkpkcopjkhkaa.Oct
open Go.RowKit
set_option linter.unusedSimpArgs false

set_option maxRecDepth 100000 in
set_option maxHeartbeats 2000000 in
theorem rabove_region {Q : Exit → Act → World → Prop} {x1 x2 x4 x5 x7 x8 x9 x10 x11 x12 x13 x14 x15 x16 x17 x18 x19 x20 x21 x22 x23 x24 x25 x26 x27 x28 x29 x30 x31 x32 x33 : Value} {ds : List Deferred} {A : World} {g off n c hb i : Nat} {x h : Hs} {B : Bool}
    (hx : x.length = 32) (hh : h.length = 32) (q1 : (i : Int) < (n : Int)) (HK : Hid (A.rangeAt g (off + i * 33) (U x) ∧ A.rangeAt hb 0 (U h) ∧ g < A.heap.size ∧ hb < A.heap.size)) (h15 : Hid (∀ V, Below A.heap.size A V → Calls Try.prog 15 #[.slice (some ⟨g, off, none⟩) n c, .agg (U x).toArray] V fun e V1 => ∃ p n c rs, e = .returned (.slice p n c) ∧ Hid (HsR V1 p n rs ∧ n ≤ 100000 ∧ decide (h ∈ rs) = B) ∧ Hid (Below V.heap.size V V1)))
    (hQ : ∀ (p1 : Option Addr) (n1 c1 : Nat) (z1 : Int) (V : World), Below A.heap.size A V → Q .normal { tmps := #[.slice (some ⟨g, off, none⟩) n c, x1, x2, .pointer (some ⟨hb, 0, none⟩), x4, x5, .int .i64 (i : Int), x7, x8, x9, x10, x11, x12, x13, x14, x15, .slice (some ⟨g, off, none⟩) n c, .slice (some ⟨g, off, none⟩) n c, .int .i64 (i : Int), .pointer (some ⟨g, off + i * 33, none⟩), .pointer (some ⟨g, off + i * 33, none⟩), .agg (U x).toArray, .slice p1 n1 c1, .agg (U h).toArray, .int .i64 z1, .bool B, x26, x27, x28, x29, x30, x31, x32, x33], defers := ds } V) :
    (Code.region 7 #[{ dst := some 16, op := Op.move (Operand.tmp 0), type := 22, pos := "ref.go:102", after := #[], guard := none }, { dst := some 17, op := Op.move (Operand.tmp 0), type := 22, pos := "ref.go:102", after := #[], guard := none }, { dst := some 18, op := Op.move (Operand.tmp 6), type := 3, pos := "ref.go:102", after := #[], guard := none }, { dst := some 19, op := Op.indexAddr 22 (Operand.tmp 17) (Operand.tmp 18), type := 0, pos := "ref.go:102", after := #[{ on := 1, ground := Ground.data }, { on := 2, ground := Ground.data }], guard := none }, { dst := some 20, op := Op.fieldAddr 36 (Operand.tmp 19) 0, type := 0, pos := "ref.go:102", after := #[{ on := 3, ground := Ground.data }], guard := none }, { dst := some 21, op := Op.load 34 (Operand.tmp 20), type := 34, pos := "ref.go:102", after := #[{ on := 4, ground := Ground.data }], guard := none }, { dst := some 22, op := Op.call { callee := Callee.value (Operand.func 15), args := #[Operand.tmp 16, Operand.tmp 21], argTypes := #[22, 34] }, type := 26, pos := "ref.go:102", after := #[{ on := 0, ground := Ground.data }, { on := 5, ground := Ground.data }], guard := none }, { dst := some 23, op := Op.load 34 (Operand.tmp 3), type := 34, pos := "ref.go:102", after := #[], guard := none }, { dst := some 24, op := Op.call { callee := Callee.value (Operand.func 22), args := #[Operand.tmp 22, Operand.tmp 23], argTypes := #[26, 34] }, type := 3, pos := "ref.go:102", after := #[{ on := 6, ground := Ground.data }, { on := 7, ground := Ground.data }, { on := 6, ground := Ground.chain }], guard := none }, { dst := some 25, op := Op.binOp BinOp.geq 3 (Operand.tmp 24) (Operand.const (Value.int IntKind.i64 0)) 3, type := 4, pos := "ref.go:102", after := #[{ on := 8, ground := Ground.data }], guard := none }] true).wp Try.prog Q { tmps := #[.slice (some ⟨g, off, none⟩) n c, x1, x2, .pointer (some ⟨hb, 0, none⟩), x4, x5, .int .i64 (i : Int), x7, x8, x9, x10, x11, x12, x13, x14, x15, x16, x17, x18, x19, x20, x21, x22, x23, x24, x25, x26, x27, x28, x29, x30, x31, x32, x33], defers := ds } A := by
  refine Code.wp_mono (Q := fun x a' w' => match x with | .normal => Q .normal a' w' | _ => False) (by intro x a' w' h; cases x <;> first | exact h | exact h.elim) ?_
  refine wp_region_held (S := fun V => Below A.heap.size A V) (by kernel_rfl) ?_
  have hS0 : Hid (Below A.heap.size A A.drew) := below_drew A
  change wpAnyH Try.prog .any _ _ (fun V => Below A.heap.size A V) 10 (Array.replicate 10 false) _ A.drew
  refine wpAnyH_take (i := 0) (oi := { dst := some 16, op := Op.move (Operand.tmp 0), type := 22, pos := "ref.go:102", after := #[], guard := none }) (v := .slice (some ⟨g, off, none⟩) n c) rfl (by kernel_rfl) (by kernel_rfl) (by kernel_rfl) (fun _ _ _ h => h.elim) (Or.inl ⟨by rfl, ?y0⟩) hS0.out ?_
  case y0 =>
    intro V hV
    go_simp
  simp only [Act.put, List.setIfInBounds_toArray, List.set_cons_zero, List.set_cons_succ]
  refine wpAnyH_take (i := 1) (oi := { dst := some 17, op := Op.move (Operand.tmp 0), type := 22, pos := "ref.go:102", after := #[], guard := none }) (v := .slice (some ⟨g, off, none⟩) n c) rfl (by kernel_rfl) (by kernel_rfl) (by kernel_rfl) (fun _ _ _ h => h.elim) (Or.inl ⟨by rfl, ?y1⟩) hS0.out ?_
  case y1 =>
    intro V hV
    go_simp
  simp only [Act.put, List.setIfInBounds_toArray, List.set_cons_zero, List.set_cons_succ]
  refine wpAnyH_take (i := 2) (oi := { dst := some 18, op := Op.move (Operand.tmp 6), type := 3, pos := "ref.go:102", after := #[], guard := none }) (v := .int .i64 (i : Int)) rfl (by kernel_rfl) (by kernel_rfl) (by kernel_rfl) (fun _ _ _ h => h.elim) (Or.inl ⟨by rfl, ?y2⟩) hS0.out ?_
  case y2 =>
    intro V hV
    go_simp
  simp only [Act.put, List.setIfInBounds_toArray, List.set_cons_zero, List.set_cons_succ]
  refine wpAnyH_take (i := 3) (oi := { dst := some 19, op := Op.indexAddr 22 (Operand.tmp 17) (Operand.tmp 18), type := 0, pos := "ref.go:102", after := #[{ on := 1, ground := Ground.data }, { on := 2, ground := Ground.data }], guard := none }) (v := .pointer (some ⟨g, off + i * 33, none⟩)) rfl (by kernel_rfl) (by kernel_rfl) (by kernel_rfl) (fun _ _ _ h => h.elim) (Or.inl ⟨by rfl, ?y3⟩) hS0.out ?_
  case y3 =>
    intro V hV
    go_simp
  simp only [Act.put, List.setIfInBounds_toArray, List.set_cons_zero, List.set_cons_succ]
  refine wpAnyH_take (i := 4) (oi := { dst := some 20, op := Op.fieldAddr 36 (Operand.tmp 19) 0, type := 0, pos := "ref.go:102", after := #[{ on := 3, ground := Ground.data }], guard := none }) (v := .pointer (some ⟨g, off + i * 33, none⟩)) rfl (by kernel_rfl) (by kernel_rfl) (by kernel_rfl) (fun _ _ _ h => h.elim) (Or.inl ⟨by rfl, ?y4⟩) hS0.out ?_
  case y4 =>
    intro V hV
    go_simp
  simp only [Act.put, List.setIfInBounds_toArray, List.set_cons_zero, List.set_cons_succ]
  refine wpAnyH_take (i := 5) (oi := { dst := some 21, op := Op.load 34 (Operand.tmp 20), type := 34, pos := "ref.go:102", after := #[{ on := 4, ground := Ground.data }], guard := none }) (v := .agg (U x).toArray) rfl (by kernel_rfl) (by kernel_rfl) (by kernel_rfl) (fun _ _ _ h => h.elim) (yieldsIf_load_mid (by rfl) _ _ rfl _ _ rfl (U x) _ (fun V hV => rangeAt_same (HK.out.1) ((show Below A.heap.size A V from hV).block _ (HK.out.2.2.1))) Try.underlying34 rfl (info34 x hx)) hS0.out ?_
  simp only [Act.put, List.setIfInBounds_toArray, List.set_cons_zero, List.set_cons_succ]
  refine wpAnyH_take (i := 7) (oi := { dst := some 23, op := Op.load 34 (Operand.tmp 3), type := 34, pos := "ref.go:102", after := #[], guard := none }) (v := .agg (U h).toArray) rfl (by kernel_rfl) (by kernel_rfl) (by kernel_rfl) (fun _ _ _ h => h.elim) (yieldsIf_load_mid (by rfl) _ _ rfl _ _ rfl (U h) _ (fun V hV => rangeAt_same (HK.out.2.1) ((show Below A.heap.size A V from hV).block _ (HK.out.2.2.2))) Try.underlying34 rfl (info34 h hh)) hS0.out ?_
  simp only [Act.put, List.setIfInBounds_toArray, List.set_cons_zero, List.set_cons_succ]
  refine wpAnyH_ready (rs := [6]) (by kernel_rfl) (by simp) (AllReadyH.cons (i := 6) (o := { dst := some 22, op := Op.call { callee := Callee.value (Operand.func 15), args := #[Operand.tmp 16, Operand.tmp 21], argTypes := #[22, 34] }, type := 26, pos := "ref.go:102", after := #[{ on := 0, ground := Ground.data }, { on := 5, ground := Ground.data }], guard := none }) rfl ?_ AllReadyH.nil)
  intro K1 hK1
  rw [if_pos (by rfl)]
  have HC1 := h15.out A.drew hS0.out
  go_wp2_with fail
  refine HC1.mono ?_
  rintro e V1 ⟨p1, n1, c1, rs1, rfl, H1, HB1⟩
  dsimp only
  clear HC1
  have hS1 : Hid (Below A.heap.size A V1) := hS0.out.trans (HB1.out.mono hS0.out.size)
  refine hK1.out _ _ hS1.out ?_
  clear hK1
  intro _
  try simp only [Act.put, List.setIfInBounds_toArray, List.set_cons_zero, List.set_cons_succ]
  refine wpAnyH_ready (rs := [8]) (by kernel_rfl) (by simp) (AllReadyH.cons (i := 8) (o := { dst := some 24, op := Op.call { callee := Callee.value (Operand.func 22), args := #[Operand.tmp 22, Operand.tmp 23], argTypes := #[26, 34] }, type := 3, pos := "ref.go:102", after := #[{ on := 6, ground := Ground.data }, { on := 7, ground := Ground.data }, { on := 6, ground := Ground.chain }], guard := none }) rfl ?_ AllReadyH.nil)
  intro K1 hK1
  rw [if_pos (by rfl)]
  have HC2 := place_tell V1 p1 n1 c1 rs1 h B H1.out.1 hh H1.out.2.1 H1.out.2.2
  go_wp2_with fail
  refine HC2.mono ?_
  rintro e V2 ⟨z1, rfl, HZ1, HB2⟩
  dsimp only
  clear HC2
  have hS2 : Hid (Below A.heap.size A V2) := hS1.out.trans (HB2.out.mono hS1.out.size)
  refine hK1.out _ _ hS2.out ?_
  clear hK1
  intro _
  try simp only [Act.put, List.setIfInBounds_toArray, List.set_cons_zero, List.set_cons_succ]
  refine wpAnyH_take (i := 9) (oi := { dst := some 25, op := Op.binOp BinOp.geq 3 (Operand.tmp 24) (Operand.const (Value.int IntKind.i64 0)) 3, type := 4, pos := "ref.go:102", after := #[{ on := 8, ground := Ground.data }], guard := none }) (v := .bool B) rfl (by kernel_rfl) (by kernel_rfl) (by kernel_rfl) (fun _ _ _ h => h.elim) (Or.inl ⟨by rfl, ?y9⟩) hS2.out ?_
  case y9 =>
    intro V hV
    have q := HZ1.out
    go_simp
  simp only [Act.put, List.setIfInBounds_toArray, List.set_cons_zero, List.set_cons_succ]
  refine wpAnyH_done (by kernel_rfl) ?_ _
  exact hQ p1 n1 c1 z1 V2 hS2.out
end Go.Proofs.Ytijkpkcopjkhkaa.Oct

/- Layer 12 (deps): the reference: Above. -/
namespace Go.Proofs.Ytijkpkcopjkhkaa.Oct
open Go.RowKit

theorem rneeds_tell (w : World) (a : Option Addr) (len cap : Nat) (l : List It) (h y : Hs) (hi : Its w a len l) (hl : h.length = 32) (hn : len ≤ 256) (hm : many l ≤ 90000) (B : Bool) (hB : B = true ↔ Reach (getS (downS l)) h y) :
    Calls Try.prog 15 #[.slice a len cap, .agg (U h).toArray] w fun e w' => ∃ p n c rs, e = .returned (.slice p n c) ∧ Hid (HsR w' p n rs ∧ n ≤ 100000 ∧ decide (y ∈ rs) = B) ∧ Hid (Below w.heap.size w w') := by
  refine (rneeds_is w a len cap l h hi hl (by omega) hm).mono ?_
  rintro e w' ⟨p, n, c, rs, rfl, H1, H2⟩
  refine ⟨p, n, c, rs, rfl, ⟨H1.out.1, H1.out.2.1, ?_⟩, H2⟩
  rw [Bool.eq_iff_iff, decide_eq_true_iff, hB, H1.out.2.2.2]
  exact ⟨fun h => h.2, fun h => ⟨hn, h⟩⟩
theorem reach_from {l : List It} {y h : Hs} (hr : Reach (getS (downS l)) y h) : ∃ it ∈ l, it.name = y := by
  induction hr with
  | one h1 =>
    obtain ⟨it, m1, m2, _⟩ := (mem_down l _ _).1 h1
    exact ⟨it, m1, m2⟩
  | step _ _ ih => exact ih

set_option maxRecDepth 100000 in
set_option maxHeartbeats 4000000 in
theorem rabove_is (w : World) (a : Option Addr) (len cap : Nat) (l : List It) (h : Hs) (hi : Its w a len l) (hl : h.length = 32) (hn : len ≤ 100000) (hm : many l ≤ 90000) :
    Calls Try.prog 17 #[.slice a len cap, .agg (U h).toArray] w (SetP w fun x => len ≤ 256 ∧ Reach (getS (upS l)) h x) := by
  have HA : Hid (Its w a len l ∧ len ≤ 100000 ∧ many l ≤ 90000 ∧ l.length = len ∧ h.length = 32) := ⟨hi, hn, hm, hi.1, hl⟩
  have q5 : (len : Int) ≤ 100000 := by omega
  obtain ⟨W, hW⟩ : ∃ W, w.alloc (.cells (U h).toArray 34) = W := ⟨_, rfl⟩
  have HB : Hid (Below w.heap.size w W ∧ W.rangeAt w.heap.size 0 (U h) ∧ w.heap.size < W.heap.size) := ⟨by rw [← hW]; exact (Below.refl _ w).alloc (Nat.le_refl _) _, by rw [← hW]; exact new34 w h, by rw [← hW]; simp⟩
  have HW : Hid (w.alloc (.cells (U h).toArray 34) = W) := hW
  clear hW hi hl hn hm
  by_cases h256 : 256 < len
  · have q1 : (256 : Int) < (len : Int) := by omega
    have HN : Hid (¬ len ≤ 256) := by show ¬ _; omega
    clear h256
    go_enter Try.func17, Try.ntmps17
    go_wp2
    rw [HW.out]
    go_ret
    exact SetP.nil w (fun x hx => HN.out hx.1) HB.out.1
  · have q1 : ¬ (256 : Int) < (len : Int) := by omega
    have HN : Hid (len ≤ 256) := by show _ ≤ _; omega
    clear h256
    go_enter Try.func17, Try.ntmps17
    go_wp2
    rw [HW.out]
    clear HW
    go_loopw [6, 5] (fun u v wr => ∃ (i : Nat) (p : Option Addr) (m c : Nat) (rs : List Hs), u = .int .i64 (i : Int) ∧ v = .slice p m c ∧ Hid (i ≤ len ∧ Below W.heap.size W wr ∧ RiR wr p m c rs ∧ m ≤ i ∧ ∀ y, y ∈ rs ↔ (∃ it ∈ l.take i, it.name = y) ∧ Reach (getS (downS l)) y h)) (fun u _ _ => len - (intOf u).toNat)
    case atStart => exact ⟨0, none, 0, 0, [], rfl, rfl, ⟨Nat.zero_le _, Below.refl _ _, RiR.nil _, Nat.le_refl _, by simp⟩⟩
    case round =>
      obtain ⟨i, p, m, c, rs, rfl, rfl, HJ⟩ := hrel
      have HBW : Hid (Below w.heap.size w wr) := bt HB.out.1 HJ.out.2.1
      by_cases hin : i < len
      · obtain ⟨x, hx⟩ : ∃ x, l[i]? = some x := ⟨_, List.getElem?_eq_getElem (by rw [HA.out.2.2.2.1]; exact hin)⟩
        obtain ⟨b, off, rfl, hb, hel⟩ := HA.out.1.2 (by omega)
        have HX : Hid (i < len ∧ l[i]? = some x ∧ x.name.length = 32 ∧ x ∈ l) := ⟨hin, hx, (hel i x hx).1, List.mem_of_getElem? hx⟩
        have HK : Hid (wr.rangeAt b (off + i * 33) (U x.name) ∧ wr.rangeAt w.heap.size 0 (U h) ∧ b < wr.heap.size ∧ w.heap.size < wr.heap.size) := ⟨rangeAt_same (hel i x hx).nm (HBW.out.block b hb), rangeAt_same HB.out.2.1 (HJ.out.2.1.block _ HB.out.2.2), Nat.lt_of_lt_of_le hb HBW.out.size, Nat.lt_of_lt_of_le HB.out.2.2 HJ.out.2.1.size⟩
        have q2 : (i : Int) < (len : Int) := by omega
        have HT : Hid (∀ y, (∃ it ∈ l.take (i + 1), it.name = y) ↔ (∃ it ∈ l.take i, it.name = y) ∨ x.name = y) := fun y => by
          rw [List.take_add_one, hx]
          simp only [Option.toList, List.mem_append, List.mem_singleton]
          constructor
          · rintro ⟨it, h1 | rfl, h2⟩
            · exact .inl ⟨it, h1, h2⟩
            · exact .inr h2
          · rintro (⟨it, h1, h2⟩ | h2)
            · exact ⟨it, .inl h1, h2⟩
            · exact ⟨x, .inr rfl, h2⟩
        clear hel hx hin hb
        obtain ⟨B, hB⟩ : ∃ B : Bool, B = true ↔ Reach (getS (downS l)) x.name h := by
          classical
          exact ⟨decide (Reach (getS (downS l)) x.name h), decide_eq_true_iff⟩
        have HBB : Hid (B = true ↔ Reach (getS (downS l)) x.name h) := hB
        clear hB
        go_wp2
        refine rabove_region (x := x.name) (B := B) HX.out.2.2.1 HA.out.2.2.2.2 q2 HK (fun V1 h1 => rneeds_tell V1 _ len cap l x.name h (HA.out.1.below (bt HBW.out h1)) HX.out.2.2.1 HN.out HA.out.2.2.1 B HBB.out) ?_
        intro p1 n1 c1 z1 V2 hV2
        have HV2 : Hid (Below W.heap.size W V2 ∧ RiR V2 p m c rs ∧ V2.rangeAt b (off + i * 33) (U x.name)) := ⟨bt HJ.out.2.1 hV2, HJ.out.2.2.1.below hV2, rangeAt_same HK.out.1 (hV2.block _ HK.out.2.2.1)⟩
        clear hV2
        cases B with
        | false =>
          go_wp2
          refine ⟨⟨i + 1, p, m, c, rs, by simp, rfl, ⟨HX.out.1, HV2.out.1, HV2.out.2.1, by have := HJ.out.2.2.2.1; omega, fun y => ?_⟩⟩, ?_⟩
          · rw [HJ.out.2.2.2.2 y, HT.out y]
            constructor
            · rintro ⟨h1, h2⟩
              exact ⟨.inl h1, h2⟩
            · rintro ⟨h1 | rfl, h2⟩
              · exact ⟨h1, h2⟩
              · have := HBB.out.2 h2
                cases this
          · have := HX.out.1; simp [intOf]; omega
        | true =>
          go_wp2_with (first
            | (with_reducible change wpList _ _ _ ({ dst := some 31, op := _, type := _, pos := _, after := _, guard := _ } :: _) _ _
               refine wpList_load_mid rfl 34 (.tmp 30) rfl b (off + i * 33) rfl (U x.name) _ HV2.out.2.2 Try.underlying34 rfl (info34 x.name HX.out.2.2.1) ?_)
            | fail)
          refine (with_is V2 p m c rs x.name HV2.out.2.1 HX.out.2.2.1 (by have := HJ.out.2.2.2.1; have := HX.out.1; have := HA.out.2.1; omega)).mono ?_
          rintro e V3 ⟨p', m', c', rs', rfl, H2, HB2, _⟩
          go_wp2
          refine ⟨⟨i + 1, p', m', c', rs', by simp, rfl, ⟨HX.out.1, bt HV2.out.1 HB2.out, H2.out.1, by have := HJ.out.2.2.2.1; have := H2.out.2.1; omega, fun y => ?_⟩⟩, ?_⟩
          · rw [H2.out.2.2 y, HJ.out.2.2.2.2 y, HT.out y]
            constructor
            · rintro (⟨h1, h2⟩ | rfl)
              · exact ⟨.inl h1, h2⟩
              · exact ⟨.inr rfl, HBB.out.1 (by trivial)⟩
            · rintro ⟨h1 | rfl, h2⟩
              · exact .inl ⟨h1, h2⟩
              · exact .inr rfl
          · have := HX.out.1; simp [intOf]; omega
      · have q2 : ¬ (i : Int) < (len : Int) := by omega
        have HT : Hid (l.take i = l) := List.take_of_length_le (by have := HA.out.2.2.2.1; omega)
        have HBW : Hid (Below w.heap.size w wr) := bt HB.out.1 HJ.out.2.1
        clear hin
        go_wp2
        go_ret
        refine ⟨p, m, c, rs, rfl, ⟨HJ.out.2.2.1.1, by have := HJ.out.2.2.2.1; have := HJ.out.1; have := HA.out.2.1; omega, HJ.out.2.2.1.2.2.2, fun y => ?_⟩, HBW⟩
        rw [HJ.out.2.2.2.2 y, HT.out]
        show _ ↔ len ≤ 256 ∧ Reach (getS (upS l)) h y
        rw [← mirror]
        exact ⟨fun h => ⟨HN.out, h.2⟩, fun h => ⟨reach_from h.2, h.2⟩⟩
end Go.Proofs.Ytijkpkcopjkhkaa.Oct

/- Layer 12 (deps): DepsTells: its last statement, whatever its order. -/
namespace Go.Proofs.Ytijkpkcopjkhkaa.Oct
open Go.RowKit
set_option linter.unusedSimpArgs false

set_option maxRecDepth 100000 in
set_option maxHeartbeats 2000000 in
theorem tells_region {Q : Exit → Act → World → Prop} {x1 x2 x4 x5 x6 x7 x8 x9 x10 x11 x12 x13 x14 x15 x16 x17 x18 x19 x20 x21 x22 x23 x24 x25 x26 x27 x28 x29 x30 x31 x32 x33 x34 x35 x36 x37 x38 x39 x40 x41 x42 x43 x44 x45 x46 x47 x48 x49 x50 x51 : Value} {ds : List Deferred} {A : World} {a : Option Addr} {len cap hb : Nat} {h : Hs} {l : List It}
    (HK : Hid (A.rangeAt hb 0 (U h) ∧ hb < A.heap.size)) (HI : Hid (Its A a len l ∧ h.length = 32 ∧ len ≤ 100000 ∧ many l ≤ 90000 ∧ len ≤ cap))
    (hQ : ∀ (p1 : Option Addr) (n1 c1 : Nat) (p2 : Option Addr) (n2 c2 : Nat) (p3 : Option Addr) (n3 c3 : Nat) (p4 : Option Addr) (n4 c4 : Nat) (p5 : Option Addr) (n5 c5 : Nat) (p6 : Option Addr) (n6 c6 : Nat) (b1 : Bool) (V : World), Below A.heap.size A V → Q .normal { tmps := #[.slice a len cap, x1, x2, .pointer (some ⟨hb, 0, none⟩), .bool true, x5, x6, x7, x8, x9, x10, x11, x12, x13, x14, x15, x16, x17, x18, .slice a len cap, .agg (U h).toArray, .slice p1 n1 c1, .slice a len cap, .agg (U h).toArray, .slice p2 n2 c2, .bool true, .bool true, .slice a len cap, .agg (U h).toArray, .slice p3 n3 c3, .slice a len cap, .agg (U h).toArray, .slice p4 n4 c4, .bool true, .bool true, .bool true, .slice a len cap, .slice p5 n5 c5, .slice a len cap, .slice p6 n6 c6, .bool true, .bool true, .bool true, .slice a len cap, .bool b1, .slice a len cap, .bool b1, .bool true, .bool true, .bool true, .bool true, .bool true], defers := ds } V) :
    (Code.region 3 #[{ dst := some 19, op := Op.move (Operand.tmp 0), type := 22, pos := "law.go:64", after := #[], guard := none }, { dst := some 20, op := Op.load 34 (Operand.tmp 3), type := 34, pos := "law.go:64", after := #[], guard := none }, { dst := some 21, op := Op.call { callee := Callee.value (Operand.func 14), args := #[Operand.tmp 19, Operand.tmp 20], argTypes := #[22, 34] }, type := 26, pos := "law.go:64", after := #[{ on := 0, ground := Ground.data }, { on := 1, ground := Ground.data }], guard := none }, { dst := some 22, op := Op.move (Operand.tmp 0), type := 22, pos := "law.go:64", after := #[], guard := none }, { dst := some 23, op := Op.load 34 (Operand.tmp 3), type := 34, pos := "law.go:64", after := #[], guard := none }, { dst := some 24, op := Op.call { callee := Callee.value (Operand.func 15), args := #[Operand.tmp 22, Operand.tmp 23], argTypes := #[22, 34] }, type := 26, pos := "law.go:64", after := #[{ on := 3, ground := Ground.data }, { on := 4, ground := Ground.data }, { on := 2, ground := Ground.chain }], guard := none }, { dst := some 25, op := Op.call { callee := Callee.value (Operand.func 13), args := #[Operand.tmp 21, Operand.tmp 24], argTypes := #[26, 26] }, type := 4, pos := "law.go:64", after := #[{ on := 2, ground := Ground.data }, { on := 5, ground := Ground.data }, { on := 5, ground := Ground.chain }], guard := none }, { dst := some 26, op := Op.move (Operand.tmp 25), type := 4, pos := "law.go:64", after := #[{ on := 6, ground := Ground.data }, { on := 6, ground := Ground.chain }], guard := none }, { dst := some 27, op := Op.move (Operand.tmp 0), type := 22, pos := "law.go:64", after := #[{ on := 7, ground := Ground.guard }], guard := some (7, true) }, { dst := some 28, op := Op.load 34 (Operand.tmp 3), type := 34, pos := "law.go:64", after := #[{ on := 7, ground := Ground.guard }], guard := some (7, true) }, { dst := some 29, op := Op.call { callee := Callee.value (Operand.func 16), args := #[Operand.tmp 27, Operand.tmp 28], argTypes := #[22, 34] }, type := 26, pos := "law.go:64", after := #[{ on := 8, ground := Ground.data }, { on := 9, ground := Ground.data }, { on := 7, ground := Ground.chain }, { on := 7, ground := Ground.guard }], guard := some (7, true) }, { dst := some 30, op := Op.move (Operand.tmp 0), type := 22, pos := "law.go:64", after := #[{ on := 7, ground := Ground.guard }], guard := some (7, true) }, { dst := some 31, op := Op.load 34 (Operand.tmp 3), type := 34, pos := "law.go:64", after := #[{ on := 7, ground := Ground.guard }], guard := some (7, true) }, { dst := some 32, op := Op.call { callee := Callee.value (Operand.func 17), args := #[Operand.tmp 30, Operand.tmp 31], argTypes := #[22, 34] }, type := 26, pos := "law.go:64", after := #[{ on := 11, ground := Ground.data }, { on := 12, ground := Ground.data }, { on := 10, ground := Ground.chain }, { on := 7, ground := Ground.guard }], guard := some (7, true) }, { dst := some 33, op := Op.call { callee := Callee.value (Operand.func 13), args := #[Operand.tmp 29, Operand.tmp 32], argTypes := #[26, 26] }, type := 4, pos := "law.go:64", after := #[{ on := 10, ground := Ground.data }, { on := 13, ground := Ground.data }, { on := 13, ground := Ground.chain }, { on := 7, ground := Ground.guard }], guard := some (7, true) }, { dst := some 34, op := Op.pick (Operand.tmp 26) (Operand.tmp 33) (Operand.const (Value.bool false)), type := 4, pos := "law.go:64", after := #[{ on := 7, ground := Ground.data }, { on := 14, ground := Ground.data }], guard := none }, { dst := some 35, op := Op.move (Operand.tmp 34), type := 4, pos := "law.go:64", after := #[{ on := 15, ground := Ground.data }, { on := 14, ground := Ground.chain }], guard := none }, { dst := some 36, op := Op.move (Operand.tmp 0), type := 22, pos := "law.go:64", after := #[{ on := 16, ground := Ground.guard }], guard := some (16, true) }, { dst := some 37, op := Op.call { callee := Callee.value (Operand.func 18), args := #[Operand.tmp 36], argTypes := #[22] }, type := 26, pos := "law.go:64", after := #[{ on := 17, ground := Ground.data }, { on := 16, ground := Ground.chain }, { on := 16, ground := Ground.guard }], guard := some (16, true) }, { dst := some 38, op := Op.move (Operand.tmp 0), type := 22, pos := "law.go:64", after := #[{ on := 16, ground := Ground.guard }], guard := some (16, true) }, { dst := some 39, op := Op.call { callee := Callee.value (Operand.func 19), args := #[Operand.tmp 38], argTypes := #[22] }, type := 26, pos := "law.go:64", after := #[{ on := 19, ground := Ground.data }, { on := 18, ground := Ground.chain }, { on := 16, ground := Ground.guard }], guard := some (16, true) }, { dst := some 40, op := Op.call { callee := Callee.value (Operand.func 13), args := #[Operand.tmp 37, Operand.tmp 39], argTypes := #[26, 26] }, type := 4, pos := "law.go:64", after := #[{ on := 18, ground := Ground.data }, { on := 20, ground := Ground.data }, { on := 20, ground := Ground.chain }, { on := 16, ground := Ground.guard }], guard := some (16, true) }, { dst := some 41, op := Op.pick (Operand.tmp 35) (Operand.tmp 40) (Operand.const (Value.bool false)), type := 4, pos := "law.go:64", after := #[{ on := 16, ground := Ground.data }, { on := 21, ground := Ground.data }], guard := none }, { dst := some 42, op := Op.move (Operand.tmp 41), type := 4, pos := "law.go:64", after := #[{ on := 22, ground := Ground.data }, { on := 21, ground := Ground.chain }], guard := none }, { dst := some 43, op := Op.move (Operand.tmp 0), type := 22, pos := "law.go:64", after := #[{ on := 23, ground := Ground.guard }], guard := some (23, true) }, { dst := some 44, op := Op.call { callee := Callee.value (Operand.func 20), args := #[Operand.tmp 43], argTypes := #[22] }, type := 4, pos := "law.go:64", after := #[{ on := 24, ground := Ground.data }, { on := 23, ground := Ground.chain }, { on := 23, ground := Ground.guard }], guard := some (23, true) }, { dst := some 45, op := Op.move (Operand.tmp 0), type := 22, pos := "law.go:64", after := #[{ on := 23, ground := Ground.guard }], guard := some (23, true) }, { dst := some 46, op := Op.call { callee := Callee.value (Operand.func 21), args := #[Operand.tmp 45], argTypes := #[22] }, type := 4, pos := "law.go:64", after := #[{ on := 26, ground := Ground.data }, { on := 25, ground := Ground.chain }, { on := 23, ground := Ground.guard }], guard := some (23, true) }, { dst := some 47, op := Op.binOp BinOp.eql 4 (Operand.tmp 44) (Operand.tmp 46) 4, type := 4, pos := "law.go:64", after := #[{ on := 25, ground := Ground.data }, { on := 27, ground := Ground.data }, { on := 23, ground := Ground.guard }], guard := some (23, true) }, { dst := some 48, op := Op.pick (Operand.tmp 42) (Operand.tmp 47) (Operand.const (Value.bool false)), type := 4, pos := "law.go:64", after := #[{ on := 23, ground := Ground.data }, { on := 28, ground := Ground.data }], guard := none }, { dst := some 49, op := Op.move (Operand.tmp 48), type := 4, pos := "law.go:64", after := #[{ on := 29, ground := Ground.data }, { on := 27, ground := Ground.chain }], guard := none }, { dst := some 50, op := Op.call { callee := Callee.value (Operand.func 9), args := #[], argTypes := #[] }, type := 4, pos := "law.go:64", after := #[{ on := 30, ground := Ground.chain }, { on := 30, ground := Ground.guard }], guard := some (30, true) }, { dst := some 51, op := Op.pick (Operand.tmp 49) (Operand.tmp 50) (Operand.const (Value.bool false)), type := 4, pos := "law.go:64", after := #[{ on := 30, ground := Ground.data }, { on := 31, ground := Ground.data }], guard := none }, { dst := some 4, op := Op.assign (Operand.tmp 51), type := 4, pos := "law.go:64", after := #[{ on := 32, ground := Ground.data }, { on := 31, ground := Ground.chain }, { on := 0, ground := Ground.phase }, { on := 1, ground := Ground.phase }, { on := 2, ground := Ground.phase }, { on := 3, ground := Ground.phase }, { on := 4, ground := Ground.phase }, { on := 5, ground := Ground.phase }, { on := 6, ground := Ground.phase }, { on := 7, ground := Ground.phase }, { on := 8, ground := Ground.phase }, { on := 9, ground := Ground.phase }, { on := 10, ground := Ground.phase }, { on := 11, ground := Ground.phase }, { on := 12, ground := Ground.phase }, { on := 13, ground := Ground.phase }, { on := 14, ground := Ground.phase }, { on := 15, ground := Ground.phase }, { on := 16, ground := Ground.phase }, { on := 17, ground := Ground.phase }, { on := 18, ground := Ground.phase }, { on := 19, ground := Ground.phase }, { on := 20, ground := Ground.phase }, { on := 21, ground := Ground.phase }, { on := 22, ground := Ground.phase }, { on := 23, ground := Ground.phase }, { on := 24, ground := Ground.phase }, { on := 25, ground := Ground.phase }, { on := 26, ground := Ground.phase }, { on := 27, ground := Ground.phase }, { on := 28, ground := Ground.phase }, { on := 29, ground := Ground.phase }, { on := 30, ground := Ground.phase }, { on := 31, ground := Ground.phase }, { on := 32, ground := Ground.phase }], guard := none }] true).wp Try.prog Q { tmps := #[.slice a len cap, x1, x2, .pointer (some ⟨hb, 0, none⟩), x4, x5, x6, x7, x8, x9, x10, x11, x12, x13, x14, x15, x16, x17, x18, x19, x20, x21, x22, x23, x24, x25, x26, x27, x28, x29, x30, x31, x32, x33, x34, x35, x36, x37, x38, x39, x40, x41, x42, x43, x44, x45, x46, x47, x48, x49, x50, x51], defers := ds } A := by
  refine Code.wp_mono (Q := fun x a' w' => match x with | .normal => Q .normal a' w' | _ => False) (by intro x a' w' h; cases x <;> first | exact h | exact h.elim) ?_
  refine wp_region_held (S := fun V => Below A.heap.size A V) (by kernel_rfl) ?_
  have hS0 : Hid (Below A.heap.size A A.drew) := below_drew A
  change wpAnyH Try.prog .any _ _ (fun V => Below A.heap.size A V) 34 (Array.replicate 34 false) _ A.drew
  refine wpAnyH_take (i := 0) (oi := { dst := some 19, op := Op.move (Operand.tmp 0), type := 22, pos := "law.go:64", after := #[], guard := none }) (v := .slice a len cap) rfl (by kernel_rfl) (by kernel_rfl) (by kernel_rfl) (fun _ _ _ h => h.elim) (Or.inl ⟨by rfl, ?y0⟩) hS0.out ?_
  case y0 =>
    intro V hV
    go_simp
  simp only [Act.put, List.setIfInBounds_toArray, List.set_cons_zero, List.set_cons_succ]
  refine wpAnyH_take (i := 1) (oi := { dst := some 20, op := Op.load 34 (Operand.tmp 3), type := 34, pos := "law.go:64", after := #[], guard := none }) (v := .agg (U h).toArray) rfl (by kernel_rfl) (by kernel_rfl) (by kernel_rfl) (fun _ _ _ h => h.elim) (yieldsIf_load_mid (by rfl) _ _ rfl _ _ rfl (U h) _ (fun V hV => rangeAt_same (HK.out.1) ((show Below A.heap.size A V from hV).block _ (HK.out.2))) Try.underlying34 rfl (info34 h HI.out.2.1)) hS0.out ?_
  simp only [Act.put, List.setIfInBounds_toArray, List.set_cons_zero, List.set_cons_succ]
  refine wpAnyH_take (i := 3) (oi := { dst := some 22, op := Op.move (Operand.tmp 0), type := 22, pos := "law.go:64", after := #[], guard := none }) (v := .slice a len cap) rfl (by kernel_rfl) (by kernel_rfl) (by kernel_rfl) (fun _ _ _ h => h.elim) (Or.inl ⟨by rfl, ?y3⟩) hS0.out ?_
  case y3 =>
    intro V hV
    go_simp
  simp only [Act.put, List.setIfInBounds_toArray, List.set_cons_zero, List.set_cons_succ]
  refine wpAnyH_take (i := 4) (oi := { dst := some 23, op := Op.load 34 (Operand.tmp 3), type := 34, pos := "law.go:64", after := #[], guard := none }) (v := .agg (U h).toArray) rfl (by kernel_rfl) (by kernel_rfl) (by kernel_rfl) (fun _ _ _ h => h.elim) (yieldsIf_load_mid (by rfl) _ _ rfl _ _ rfl (U h) _ (fun V hV => rangeAt_same (HK.out.1) ((show Below A.heap.size A V from hV).block _ (HK.out.2))) Try.underlying34 rfl (info34 h HI.out.2.1)) hS0.out ?_
  simp only [Act.put, List.setIfInBounds_toArray, List.set_cons_zero, List.set_cons_succ]
  refine wpAnyH_ready (rs := [2]) (by kernel_rfl) (by simp) (AllReadyH.cons (i := 2) (o := { dst := some 21, op := Op.call { callee := Callee.value (Operand.func 14), args := #[Operand.tmp 19, Operand.tmp 20], argTypes := #[22, 34] }, type := 26, pos := "law.go:64", after := #[{ on := 0, ground := Ground.data }, { on := 1, ground := Ground.data }], guard := none }) rfl ?_ AllReadyH.nil)
  intro K1 hK1
  rw [if_pos (by rfl)]
  have HC1 := needs_is A.drew a len cap l h (HI.out.1.below hS0.out) HI.out.2.1 HI.out.2.2.1 HI.out.2.2.2.1
  go_wp2_with fail
  refine HC1.mono ?_
  rintro e V1 ⟨p1, n1, c1, r1, rfl, H1, HB1⟩
  dsimp only
  clear HC1
  have hS1 : Hid (Below A.heap.size A V1) := hS0.out.trans (HB1.out.mono hS0.out.size)
  refine hK1.out _ _ hS1.out ?_
  clear hK1
  intro _
  try simp only [Act.put, List.setIfInBounds_toArray, List.set_cons_zero, List.set_cons_succ]
  refine wpAnyH_ready (rs := [5]) (by kernel_rfl) (by simp) (AllReadyH.cons (i := 5) (o := { dst := some 24, op := Op.call { callee := Callee.value (Operand.func 15), args := #[Operand.tmp 22, Operand.tmp 23], argTypes := #[22, 34] }, type := 26, pos := "law.go:64", after := #[{ on := 3, ground := Ground.data }, { on := 4, ground := Ground.data }, { on := 2, ground := Ground.chain }], guard := none }) rfl ?_ AllReadyH.nil)
  intro K1 hK1
  rw [if_pos (by rfl)]
  have HC2 := rneeds_is V1 a len cap l h (HI.out.1.below hS1.out) HI.out.2.1 HI.out.2.2.1 HI.out.2.2.2.1
  go_wp2_with fail
  refine HC2.mono ?_
  rintro e V2 ⟨p2, n2, c2, r2, rfl, H2, HB2⟩
  dsimp only
  clear HC2
  have hS2 : Hid (Below A.heap.size A V2) := hS1.out.trans (HB2.out.mono hS1.out.size)
  obtain rfl : r1 = r2 := rise_eq H1.out.2.2.1 H2.out.2.2.1 (fun x => by rw [H1.out.2.2.2, H2.out.2.2.2])
  refine hK1.out _ _ hS2.out ?_
  clear hK1
  intro _
  try simp only [Act.put, List.setIfInBounds_toArray, List.set_cons_zero, List.set_cons_succ]
  refine wpAnyH_ready (rs := [6]) (by kernel_rfl) (by simp) (AllReadyH.cons (i := 6) (o := { dst := some 25, op := Op.call { callee := Callee.value (Operand.func 13), args := #[Operand.tmp 21, Operand.tmp 24], argTypes := #[26, 26] }, type := 4, pos := "law.go:64", after := #[{ on := 2, ground := Ground.data }, { on := 5, ground := Ground.data }, { on := 5, ground := Ground.chain }], guard := none }) rfl ?_ AllReadyH.nil)
  intro K1 hK1
  rw [if_pos (by rfl)]
  have HC3 := hashes_true V2 p1 n1 c1 p2 n2 c2 r1 (H1.out.1.below HB2.out) H2.out.1 H1.out.2.1 H2.out.2.1
  go_wp2_with fail
  refine HC3.mono ?_
  rintro e V3 ⟨rfl, HB3⟩
  dsimp only
  clear HC3
  have hS3 : Hid (Below A.heap.size A V3) := hS2.out.trans (HB3.out.mono hS2.out.size)
  refine hK1.out _ _ hS3.out ?_
  clear hK1
  intro _
  try simp only [Act.put, List.setIfInBounds_toArray, List.set_cons_zero, List.set_cons_succ]
  refine wpAnyH_take (i := 7) (oi := { dst := some 26, op := Op.move (Operand.tmp 25), type := 4, pos := "law.go:64", after := #[{ on := 6, ground := Ground.data }, { on := 6, ground := Ground.chain }], guard := none }) (v := .bool true) rfl (by kernel_rfl) (by kernel_rfl) (by kernel_rfl) (fun _ _ _ h => h.elim) (Or.inl ⟨by rfl, ?y7⟩) hS3.out ?_
  case y7 =>
    intro V hV
    go_simp
  simp only [Act.put, List.setIfInBounds_toArray, List.set_cons_zero, List.set_cons_succ]
  refine wpAnyH_take (i := 8) (oi := { dst := some 27, op := Op.move (Operand.tmp 0), type := 22, pos := "law.go:64", after := #[{ on := 7, ground := Ground.guard }], guard := some (7, true) }) (v := .slice a len cap) rfl (by kernel_rfl) (by kernel_rfl) (by kernel_rfl) (fun _ _ _ h => h.elim) (Or.inl ⟨by rfl, ?y8⟩) hS3.out ?_
  case y8 =>
    intro V hV
    go_simp
  simp only [Act.put, List.setIfInBounds_toArray, List.set_cons_zero, List.set_cons_succ]
  refine wpAnyH_take (i := 9) (oi := { dst := some 28, op := Op.load 34 (Operand.tmp 3), type := 34, pos := "law.go:64", after := #[{ on := 7, ground := Ground.guard }], guard := some (7, true) }) (v := .agg (U h).toArray) rfl (by kernel_rfl) (by kernel_rfl) (by kernel_rfl) (fun _ _ _ h => h.elim) (yieldsIf_load_mid (by rfl) _ _ rfl _ _ rfl (U h) _ (fun V hV => rangeAt_same (HK.out.1) ((show Below A.heap.size A V from hV).block _ (HK.out.2))) Try.underlying34 rfl (info34 h HI.out.2.1)) hS3.out ?_
  simp only [Act.put, List.setIfInBounds_toArray, List.set_cons_zero, List.set_cons_succ]
  refine wpAnyH_take (i := 11) (oi := { dst := some 30, op := Op.move (Operand.tmp 0), type := 22, pos := "law.go:64", after := #[{ on := 7, ground := Ground.guard }], guard := some (7, true) }) (v := .slice a len cap) rfl (by kernel_rfl) (by kernel_rfl) (by kernel_rfl) (fun _ _ _ h => h.elim) (Or.inl ⟨by rfl, ?y11⟩) hS3.out ?_
  case y11 =>
    intro V hV
    go_simp
  simp only [Act.put, List.setIfInBounds_toArray, List.set_cons_zero, List.set_cons_succ]
  refine wpAnyH_take (i := 12) (oi := { dst := some 31, op := Op.load 34 (Operand.tmp 3), type := 34, pos := "law.go:64", after := #[{ on := 7, ground := Ground.guard }], guard := some (7, true) }) (v := .agg (U h).toArray) rfl (by kernel_rfl) (by kernel_rfl) (by kernel_rfl) (fun _ _ _ h => h.elim) (yieldsIf_load_mid (by rfl) _ _ rfl _ _ rfl (U h) _ (fun V hV => rangeAt_same (HK.out.1) ((show Below A.heap.size A V from hV).block _ (HK.out.2))) Try.underlying34 rfl (info34 h HI.out.2.1)) hS3.out ?_
  simp only [Act.put, List.setIfInBounds_toArray, List.set_cons_zero, List.set_cons_succ]
  refine wpAnyH_ready (rs := [10]) (by kernel_rfl) (by simp) (AllReadyH.cons (i := 10) (o := { dst := some 29, op := Op.call { callee := Callee.value (Operand.func 16), args := #[Operand.tmp 27, Operand.tmp 28], argTypes := #[22, 34] }, type := 26, pos := "law.go:64", after := #[{ on := 8, ground := Ground.data }, { on := 9, ground := Ground.data }, { on := 7, ground := Ground.chain }, { on := 7, ground := Ground.guard }], guard := some (7, true) }) rfl ?_ AllReadyH.nil)
  intro K1 hK1
  rw [if_pos (by rfl)]
  have HC4 := above_is V3 a len cap l h (HI.out.1.below hS3.out) HI.out.2.1 HI.out.2.2.1 HI.out.2.2.2.1
  go_wp2_with fail
  refine HC4.mono ?_
  rintro e V4 ⟨p3, n3, c3, r3, rfl, H3, HB4⟩
  dsimp only
  clear HC4
  have hS4 : Hid (Below A.heap.size A V4) := hS3.out.trans (HB4.out.mono hS3.out.size)
  refine hK1.out _ _ hS4.out ?_
  clear hK1
  intro _
  try simp only [Act.put, List.setIfInBounds_toArray, List.set_cons_zero, List.set_cons_succ]
  refine wpAnyH_ready (rs := [13]) (by kernel_rfl) (by simp) (AllReadyH.cons (i := 13) (o := { dst := some 32, op := Op.call { callee := Callee.value (Operand.func 17), args := #[Operand.tmp 30, Operand.tmp 31], argTypes := #[22, 34] }, type := 26, pos := "law.go:64", after := #[{ on := 11, ground := Ground.data }, { on := 12, ground := Ground.data }, { on := 10, ground := Ground.chain }, { on := 7, ground := Ground.guard }], guard := some (7, true) }) rfl ?_ AllReadyH.nil)
  intro K1 hK1
  rw [if_pos (by rfl)]
  have HC5 := rabove_is V4 a len cap l h (HI.out.1.below hS4.out) HI.out.2.1 HI.out.2.2.1 HI.out.2.2.2.1
  go_wp2_with fail
  refine HC5.mono ?_
  rintro e V5 ⟨p4, n4, c4, r4, rfl, H4, HB5⟩
  dsimp only
  clear HC5
  have hS5 : Hid (Below A.heap.size A V5) := hS4.out.trans (HB5.out.mono hS4.out.size)
  obtain rfl : r3 = r4 := rise_eq H3.out.2.2.1 H4.out.2.2.1 (fun x => by rw [H3.out.2.2.2, H4.out.2.2.2])
  refine hK1.out _ _ hS5.out ?_
  clear hK1
  intro _
  try simp only [Act.put, List.setIfInBounds_toArray, List.set_cons_zero, List.set_cons_succ]
  refine wpAnyH_ready (rs := [14]) (by kernel_rfl) (by simp) (AllReadyH.cons (i := 14) (o := { dst := some 33, op := Op.call { callee := Callee.value (Operand.func 13), args := #[Operand.tmp 29, Operand.tmp 32], argTypes := #[26, 26] }, type := 4, pos := "law.go:64", after := #[{ on := 10, ground := Ground.data }, { on := 13, ground := Ground.data }, { on := 13, ground := Ground.chain }, { on := 7, ground := Ground.guard }], guard := some (7, true) }) rfl ?_ AllReadyH.nil)
  intro K1 hK1
  rw [if_pos (by rfl)]
  have HC6 := hashes_true V5 p3 n3 c3 p4 n4 c4 r3 (H3.out.1.below HB5.out) H4.out.1 H3.out.2.1 H4.out.2.1
  go_wp2_with fail
  refine HC6.mono ?_
  rintro e V6 ⟨rfl, HB6⟩
  dsimp only
  clear HC6
  have hS6 : Hid (Below A.heap.size A V6) := hS5.out.trans (HB6.out.mono hS5.out.size)
  refine hK1.out _ _ hS6.out ?_
  clear hK1
  intro _
  try simp only [Act.put, List.setIfInBounds_toArray, List.set_cons_zero, List.set_cons_succ]
  refine wpAnyH_take (i := 15) (oi := { dst := some 34, op := Op.pick (Operand.tmp 26) (Operand.tmp 33) (Operand.const (Value.bool false)), type := 4, pos := "law.go:64", after := #[{ on := 7, ground := Ground.data }, { on := 14, ground := Ground.data }], guard := none }) (v := .bool true) rfl (by kernel_rfl) (by kernel_rfl) (by kernel_rfl) (fun _ _ _ h => h.elim) (Or.inl ⟨by rfl, ?y15⟩) hS6.out ?_
  case y15 =>
    intro V hV
    go_simp
  simp only [Act.put, List.setIfInBounds_toArray, List.set_cons_zero, List.set_cons_succ]
  refine wpAnyH_take (i := 16) (oi := { dst := some 35, op := Op.move (Operand.tmp 34), type := 4, pos := "law.go:64", after := #[{ on := 15, ground := Ground.data }, { on := 14, ground := Ground.chain }], guard := none }) (v := .bool true) rfl (by kernel_rfl) (by kernel_rfl) (by kernel_rfl) (fun _ _ _ h => h.elim) (Or.inl ⟨by rfl, ?y16⟩) hS6.out ?_
  case y16 =>
    intro V hV
    go_simp
  simp only [Act.put, List.setIfInBounds_toArray, List.set_cons_zero, List.set_cons_succ]
  refine wpAnyH_take (i := 17) (oi := { dst := some 36, op := Op.move (Operand.tmp 0), type := 22, pos := "law.go:64", after := #[{ on := 16, ground := Ground.guard }], guard := some (16, true) }) (v := .slice a len cap) rfl (by kernel_rfl) (by kernel_rfl) (by kernel_rfl) (fun _ _ _ h => h.elim) (Or.inl ⟨by rfl, ?y17⟩) hS6.out ?_
  case y17 =>
    intro V hV
    go_simp
  simp only [Act.put, List.setIfInBounds_toArray, List.set_cons_zero, List.set_cons_succ]
  refine wpAnyH_take (i := 19) (oi := { dst := some 38, op := Op.move (Operand.tmp 0), type := 22, pos := "law.go:64", after := #[{ on := 16, ground := Ground.guard }], guard := some (16, true) }) (v := .slice a len cap) rfl (by kernel_rfl) (by kernel_rfl) (by kernel_rfl) (fun _ _ _ h => h.elim) (Or.inl ⟨by rfl, ?y19⟩) hS6.out ?_
  case y19 =>
    intro V hV
    go_simp
  simp only [Act.put, List.setIfInBounds_toArray, List.set_cons_zero, List.set_cons_succ]
  refine wpAnyH_ready (rs := [18]) (by kernel_rfl) (by simp) (AllReadyH.cons (i := 18) (o := { dst := some 37, op := Op.call { callee := Callee.value (Operand.func 18), args := #[Operand.tmp 36], argTypes := #[22] }, type := 26, pos := "law.go:64", after := #[{ on := 17, ground := Ground.data }, { on := 16, ground := Ground.chain }, { on := 16, ground := Ground.guard }], guard := some (16, true) }) rfl ?_ AllReadyH.nil)
  intro K1 hK1
  rw [if_pos (by rfl)]
  have HC7 := missing_is V6 a len cap l (HI.out.1.below hS6.out) HI.out.2.2.1 HI.out.2.2.2.1
  go_wp2_with fail
  refine HC7.mono ?_
  rintro e V7 ⟨p5, n5, c5, r5, rfl, H5, HB7⟩
  dsimp only
  clear HC7
  have hS7 : Hid (Below A.heap.size A V7) := hS6.out.trans (HB7.out.mono hS6.out.size)
  refine hK1.out _ _ hS7.out ?_
  clear hK1
  intro _
  try simp only [Act.put, List.setIfInBounds_toArray, List.set_cons_zero, List.set_cons_succ]
  refine wpAnyH_ready (rs := [20]) (by kernel_rfl) (by simp) (AllReadyH.cons (i := 20) (o := { dst := some 39, op := Op.call { callee := Callee.value (Operand.func 19), args := #[Operand.tmp 38], argTypes := #[22] }, type := 26, pos := "law.go:64", after := #[{ on := 19, ground := Ground.data }, { on := 18, ground := Ground.chain }, { on := 16, ground := Ground.guard }], guard := some (16, true) }) rfl ?_ AllReadyH.nil)
  intro K1 hK1
  rw [if_pos (by rfl)]
  have HC8 := rmissing_is V7 a len cap l (HI.out.1.below hS7.out) HI.out.2.2.1 HI.out.2.2.2.1
  go_wp2_with fail
  refine HC8.mono ?_
  rintro e V8 ⟨p6, n6, c6, r6, rfl, H6, HB8⟩
  dsimp only
  clear HC8
  have hS8 : Hid (Below A.heap.size A V8) := hS7.out.trans (HB8.out.mono hS7.out.size)
  obtain rfl : r5 = r6 := rise_eq H5.out.2.2.1 H6.out.2.2.1 (fun x => by rw [H5.out.2.2.2, H6.out.2.2.2])
  refine hK1.out _ _ hS8.out ?_
  clear hK1
  intro _
  try simp only [Act.put, List.setIfInBounds_toArray, List.set_cons_zero, List.set_cons_succ]
  refine wpAnyH_ready (rs := [21]) (by kernel_rfl) (by simp) (AllReadyH.cons (i := 21) (o := { dst := some 40, op := Op.call { callee := Callee.value (Operand.func 13), args := #[Operand.tmp 37, Operand.tmp 39], argTypes := #[26, 26] }, type := 4, pos := "law.go:64", after := #[{ on := 18, ground := Ground.data }, { on := 20, ground := Ground.data }, { on := 20, ground := Ground.chain }, { on := 16, ground := Ground.guard }], guard := some (16, true) }) rfl ?_ AllReadyH.nil)
  intro K1 hK1
  rw [if_pos (by rfl)]
  have HC9 := hashes_true V8 p5 n5 c5 p6 n6 c6 r5 (H5.out.1.below HB8.out) H6.out.1 H5.out.2.1 H6.out.2.1
  go_wp2_with fail
  refine HC9.mono ?_
  rintro e V9 ⟨rfl, HB9⟩
  dsimp only
  clear HC9
  have hS9 : Hid (Below A.heap.size A V9) := hS8.out.trans (HB9.out.mono hS8.out.size)
  refine hK1.out _ _ hS9.out ?_
  clear hK1
  intro _
  try simp only [Act.put, List.setIfInBounds_toArray, List.set_cons_zero, List.set_cons_succ]
  refine wpAnyH_take (i := 22) (oi := { dst := some 41, op := Op.pick (Operand.tmp 35) (Operand.tmp 40) (Operand.const (Value.bool false)), type := 4, pos := "law.go:64", after := #[{ on := 16, ground := Ground.data }, { on := 21, ground := Ground.data }], guard := none }) (v := .bool true) rfl (by kernel_rfl) (by kernel_rfl) (by kernel_rfl) (fun _ _ _ h => h.elim) (Or.inl ⟨by rfl, ?y22⟩) hS9.out ?_
  case y22 =>
    intro V hV
    go_simp
  simp only [Act.put, List.setIfInBounds_toArray, List.set_cons_zero, List.set_cons_succ]
  refine wpAnyH_take (i := 23) (oi := { dst := some 42, op := Op.move (Operand.tmp 41), type := 4, pos := "law.go:64", after := #[{ on := 22, ground := Ground.data }, { on := 21, ground := Ground.chain }], guard := none }) (v := .bool true) rfl (by kernel_rfl) (by kernel_rfl) (by kernel_rfl) (fun _ _ _ h => h.elim) (Or.inl ⟨by rfl, ?y23⟩) hS9.out ?_
  case y23 =>
    intro V hV
    go_simp
  simp only [Act.put, List.setIfInBounds_toArray, List.set_cons_zero, List.set_cons_succ]
  refine wpAnyH_take (i := 24) (oi := { dst := some 43, op := Op.move (Operand.tmp 0), type := 22, pos := "law.go:64", after := #[{ on := 23, ground := Ground.guard }], guard := some (23, true) }) (v := .slice a len cap) rfl (by kernel_rfl) (by kernel_rfl) (by kernel_rfl) (fun _ _ _ h => h.elim) (Or.inl ⟨by rfl, ?y24⟩) hS9.out ?_
  case y24 =>
    intro V hV
    go_simp
  simp only [Act.put, List.setIfInBounds_toArray, List.set_cons_zero, List.set_cons_succ]
  refine wpAnyH_take (i := 26) (oi := { dst := some 45, op := Op.move (Operand.tmp 0), type := 22, pos := "law.go:64", after := #[{ on := 23, ground := Ground.guard }], guard := some (23, true) }) (v := .slice a len cap) rfl (by kernel_rfl) (by kernel_rfl) (by kernel_rfl) (fun _ _ _ h => h.elim) (Or.inl ⟨by rfl, ?y26⟩) hS9.out ?_
  case y26 =>
    intro V hV
    go_simp
  simp only [Act.put, List.setIfInBounds_toArray, List.set_cons_zero, List.set_cons_succ]
  refine wpAnyH_ready (rs := [25]) (by kernel_rfl) (by simp) (AllReadyH.cons (i := 25) (o := { dst := some 44, op := Op.call { callee := Callee.value (Operand.func 20), args := #[Operand.tmp 43], argTypes := #[22] }, type := 4, pos := "law.go:64", after := #[{ on := 24, ground := Ground.data }, { on := 23, ground := Ground.chain }, { on := 23, ground := Ground.guard }], guard := some (23, true) }) rfl ?_ AllReadyH.nil)
  intro K1 hK1
  rw [if_pos (by rfl)]
  have HC10 := closed_is V9 a len cap l (HI.out.1.below hS9.out) HI.out.2.2.1 HI.out.2.2.2.1
  go_wp2_with fail
  refine HC10.mono ?_
  rintro e V10 ⟨b1, rfl, G1, HB10⟩
  dsimp only
  clear HC10
  have hS10 : Hid (Below A.heap.size A V10) := hS9.out.trans (HB10.out.mono hS9.out.size)
  refine hK1.out _ _ hS10.out ?_
  clear hK1
  intro _
  try simp only [Act.put, List.setIfInBounds_toArray, List.set_cons_zero, List.set_cons_succ]
  refine wpAnyH_ready (rs := [27]) (by kernel_rfl) (by simp) (AllReadyH.cons (i := 27) (o := { dst := some 46, op := Op.call { callee := Callee.value (Operand.func 21), args := #[Operand.tmp 45], argTypes := #[22] }, type := 4, pos := "law.go:64", after := #[{ on := 26, ground := Ground.data }, { on := 25, ground := Ground.chain }, { on := 23, ground := Ground.guard }], guard := some (23, true) }) rfl ?_ AllReadyH.nil)
  intro K1 hK1
  rw [if_pos (by rfl)]
  have HC11 := rclosed_is V10 a len cap l (HI.out.1.below hS10.out) HI.out.2.2.2.2 HI.out.2.2.1 HI.out.2.2.2.1
  go_wp2_with fail
  refine HC11.mono ?_
  rintro e V11 ⟨b2, rfl, G2, HB11⟩
  dsimp only
  clear HC11
  have hS11 : Hid (Below A.heap.size A V11) := hS10.out.trans (HB11.out.mono hS10.out.size)
  obtain rfl : b1 = b2 := by rw [Bool.eq_iff_iff, G1.out, G2.out]
  refine hK1.out _ _ hS11.out ?_
  clear hK1
  intro _
  try simp only [Act.put, List.setIfInBounds_toArray, List.set_cons_zero, List.set_cons_succ]
  refine wpAnyH_take (i := 28) (oi := { dst := some 47, op := Op.binOp BinOp.eql 4 (Operand.tmp 44) (Operand.tmp 46) 4, type := 4, pos := "law.go:64", after := #[{ on := 25, ground := Ground.data }, { on := 27, ground := Ground.data }, { on := 23, ground := Ground.guard }], guard := some (23, true) }) (v := .bool true) rfl (by kernel_rfl) (by kernel_rfl) (by kernel_rfl) (fun _ _ _ h => h.elim) (Or.inl ⟨by rfl, ?y28⟩) hS11.out ?_
  case y28 =>
    intro V hV
    go_simp
  simp only [Act.put, List.setIfInBounds_toArray, List.set_cons_zero, List.set_cons_succ]
  refine wpAnyH_take (i := 29) (oi := { dst := some 48, op := Op.pick (Operand.tmp 42) (Operand.tmp 47) (Operand.const (Value.bool false)), type := 4, pos := "law.go:64", after := #[{ on := 23, ground := Ground.data }, { on := 28, ground := Ground.data }], guard := none }) (v := .bool true) rfl (by kernel_rfl) (by kernel_rfl) (by kernel_rfl) (fun _ _ _ h => h.elim) (Or.inl ⟨by rfl, ?y29⟩) hS11.out ?_
  case y29 =>
    intro V hV
    go_simp
  simp only [Act.put, List.setIfInBounds_toArray, List.set_cons_zero, List.set_cons_succ]
  refine wpAnyH_take (i := 30) (oi := { dst := some 49, op := Op.move (Operand.tmp 48), type := 4, pos := "law.go:64", after := #[{ on := 29, ground := Ground.data }, { on := 27, ground := Ground.chain }], guard := none }) (v := .bool true) rfl (by kernel_rfl) (by kernel_rfl) (by kernel_rfl) (fun _ _ _ h => h.elim) (Or.inl ⟨by rfl, ?y30⟩) hS11.out ?_
  case y30 =>
    intro V hV
    go_simp
  simp only [Act.put, List.setIfInBounds_toArray, List.set_cons_zero, List.set_cons_succ]
  refine wpAnyH_ready (rs := [31]) (by kernel_rfl) (by simp) (AllReadyH.cons (i := 31) (o := { dst := some 50, op := Op.call { callee := Callee.value (Operand.func 9), args := #[], argTypes := #[] }, type := 4, pos := "law.go:64", after := #[{ on := 30, ground := Ground.chain }, { on := 30, ground := Ground.guard }], guard := some (30, true) }) rfl ?_ AllReadyH.nil)
  intro K1 hK1
  rw [if_pos (by rfl)]
  have HC12 := lives_is V11
  go_wp2_with fail
  refine HC12.mono ?_
  rintro e V12 ⟨rfl, HB12⟩
  dsimp only
  clear HC12
  have hS12 : Hid (Below A.heap.size A V12) := hS11.out.trans (HB12.out.mono hS11.out.size)
  refine hK1.out _ _ hS12.out ?_
  clear hK1
  intro _
  try simp only [Act.put, List.setIfInBounds_toArray, List.set_cons_zero, List.set_cons_succ]
  refine wpAnyH_take (i := 32) (oi := { dst := some 51, op := Op.pick (Operand.tmp 49) (Operand.tmp 50) (Operand.const (Value.bool false)), type := 4, pos := "law.go:64", after := #[{ on := 30, ground := Ground.data }, { on := 31, ground := Ground.data }], guard := none }) (v := .bool true) rfl (by kernel_rfl) (by kernel_rfl) (by kernel_rfl) (fun _ _ _ h => h.elim) (Or.inl ⟨by rfl, ?y32⟩) hS12.out ?_
  case y32 =>
    intro V hV
    go_simp
  simp only [Act.put, List.setIfInBounds_toArray, List.set_cons_zero, List.set_cons_succ]
  refine wpAnyH_take (i := 33) (oi := { dst := some 4, op := Op.assign (Operand.tmp 51), type := 4, pos := "law.go:64", after := #[{ on := 32, ground := Ground.data }, { on := 31, ground := Ground.chain }, { on := 0, ground := Ground.phase }, { on := 1, ground := Ground.phase }, { on := 2, ground := Ground.phase }, { on := 3, ground := Ground.phase }, { on := 4, ground := Ground.phase }, { on := 5, ground := Ground.phase }, { on := 6, ground := Ground.phase }, { on := 7, ground := Ground.phase }, { on := 8, ground := Ground.phase }, { on := 9, ground := Ground.phase }, { on := 10, ground := Ground.phase }, { on := 11, ground := Ground.phase }, { on := 12, ground := Ground.phase }, { on := 13, ground := Ground.phase }, { on := 14, ground := Ground.phase }, { on := 15, ground := Ground.phase }, { on := 16, ground := Ground.phase }, { on := 17, ground := Ground.phase }, { on := 18, ground := Ground.phase }, { on := 19, ground := Ground.phase }, { on := 20, ground := Ground.phase }, { on := 21, ground := Ground.phase }, { on := 22, ground := Ground.phase }, { on := 23, ground := Ground.phase }, { on := 24, ground := Ground.phase }, { on := 25, ground := Ground.phase }, { on := 26, ground := Ground.phase }, { on := 27, ground := Ground.phase }, { on := 28, ground := Ground.phase }, { on := 29, ground := Ground.phase }, { on := 30, ground := Ground.phase }, { on := 31, ground := Ground.phase }, { on := 32, ground := Ground.phase }], guard := none }) (v := .bool true) rfl (by kernel_rfl) (by kernel_rfl) (by kernel_rfl) (fun _ _ _ h => h.elim) (Or.inl ⟨by rfl, ?y33⟩) hS12.out ?_
  case y33 =>
    intro V hV
    go_simp
  simp only [Act.put, List.setIfInBounds_toArray, List.set_cons_zero, List.set_cons_succ]
  refine wpAnyH_done (by kernel_rfl) ?_ _
  exact hQ p1 n1 c1 p2 n2 c2 p3 n3 c3 p4 n4 c4 p5 n5 c5 p6 n6 c6 b1 V12 hS12.out
end Go.Proofs.Ytijkpkcopjkhkaa.Oct

/- Layer 12 (deps): DepsTells. -/
namespace Go.Proofs.Ytijkpkcopjkhkaa.Oct
open Go.RowKit

set_option maxRecDepth 100000 in
set_option maxHeartbeats 4000000 in
theorem tells_law (l : List It) (a : Option Addr) (len cap : Nat) (h : Hs) (w : World) (hi : Its w a len l) (hc : len ≤ cap ∧ cap ≤ maxLen) (hl : h.length = 32) :
    Calls Try.prog 4 #[.slice a len cap, .agg (U h).toArray] w (Law w) := by
  obtain ⟨W, hW⟩ : ∃ W, w.alloc (.cells (U h).toArray 34) = W := ⟨_, rfl⟩
  have HB : Hid (Below w.heap.size w W ∧ W.rangeAt w.heap.size 0 (U h) ∧ w.heap.size < W.heap.size) := ⟨by rw [← hW]; exact (Below.refl _ w).alloc (Nat.le_refl _) _, by rw [← hW]; exact new34 w h, by rw [← hW]; simp⟩
  have HW : Hid (w.alloc (.cells (U h).toArray 34) = W) := hW
  have HI : Hid (Its W a len l ∧ h.length = 32 ∧ len ≤ cap) := ⟨hi.below HB.out.1, hl, hc.1⟩
  have H8 : Hid (Calls Try.prog 8 #[.slice a len cap] W (LightP W len l)) := light_is W a len cap l (hi.below HB.out.1) hc
  have q5 : (len : Int) ≤ 9223372036854775807 := by have h1 := hc.1; have h2 := hc.2; unfold maxLen at h2; omega
  clear hW hi hl hc
  go_enter Try.func4, Try.ntmps4
  go_wp2_with fail
  rw [HW.out]
  refine H8.out.mono ?_
  rintro e w' ⟨b, rfl, HL, rfl⟩
  cases b with
  | false =>
    go_wp2_with fail
    refine (lives_is W).mono ?_
    rintro e w1 ⟨rfl, HB1⟩
    go_wp2
    go_ret
    exact ⟨rfl, bt HB.out.1 HB1.out⟩
  | true =>
    have HM : Hid (len ≤ 300 ∧ many l ≤ 90000) := ⟨(HL.out rfl).1, by have := (HL.out rfl).2; omega⟩
    clear HL
    by_cases h60 : 60 < len
    · have q1 : (60 : Int) < (len : Int) := by omega
      by_cases h256 : len ≤ 256
      · have q2 : (len : Int) ≤ 256 := by omega
        clear h60 h256
        go_wp2_with fail
        refine (lives_is W).mono ?_
        rintro e w1 ⟨rfl, HB1⟩
        go_wp2
        go_ret
        exact ⟨rfl, bt HB.out.1 HB1.out⟩
      · have q2 : ¬ (len : Int) ≤ 256 := by omega
        clear h60 h256
        go_wp2
        refine tells_region (l := l) (h := h) ⟨HB.out.2.1, HB.out.2.2⟩ ⟨HI.out.1, HI.out.2.1, by have := HM.out.1; omega, HM.out.2, HI.out.2.2⟩ ?_
        intro p1 n1 c1 p2 n2 c2 p3 n3 c3 p4 n4 c4 p5 n5 c5 p6 n6 c6 b1 V5 hV5
        have HV5 : Hid (Below w.heap.size w V5) := bt HB.out.1 hV5
        clear hV5
        go_wp2
        go_ret
        exact ⟨rfl, HV5.out⟩
    · have q1 : ¬ (60 : Int) < (len : Int) := by omega
      clear h60
      go_wp2
      refine tells_region (l := l) (h := h) ⟨HB.out.2.1, HB.out.2.2⟩ ⟨HI.out.1, HI.out.2.1, by have := HM.out.1; omega, HM.out.2, HI.out.2.2⟩ ?_
      intro p1 n1 c1 p2 n2 c2 p3 n3 c3 p4 n4 c4 p5 n5 c5 p6 n6 c6 b1 V5 hV5
      have HV5 : Hid (Below w.heap.size w V5) := bt HB.out.1 hV5
      clear hV5
      go_wp2
      go_ret
      exact ⟨rfl, HV5.out⟩
end Go.Proofs.Ytijkpkcopjkhkaa.Oct

/- Layer 12 (deps): the reference: ready. -/
namespace Go.Proofs.Ytijkpkcopjkhkaa.Oct
open Go.RowKit

/-- an item that may come next -/
def RdyI (told : List Hs) (x : It) : Prop := x.name ∉ told ∧ ∀ d ∈ x.deps, d ∈ told
def ReadyP (w : World) (told : List Hs) (x : It) (e : Ending) (w' : World) : Prop := ∃ b : Bool, e = .returned (.bool b) ∧ Hid (b = true ↔ RdyI told x) ∧ Hid (Below w.heap.size w w')

set_option maxRecDepth 100000 in
set_option maxHeartbeats 2000000 in
theorem ready_is (w : World) (a : Option Addr) (len cap : Nat) (l : List It) (p : Option Addr) (m c : Nat) (told : List Hs) (i : Nat) (x : It) (hi : Its w a len l) (hn : len ≤ 100000) (hm : many l ≤ 90000) (ht : HsR w p m told) (hml : m ≤ 100000) (hx : l[i]? = some x) :
    Calls Try.prog 27 #[.slice a len cap, .slice p m c, .int .i64 (i : Int)] w (ReadyP w told x) := by
  have hil : i < len := by have := (List.getElem?_eq_some_iff.1 hx).1; rw [hi.1] at this; exact this
  obtain ⟨b, off, rfl, hb, hel⟩ := hi.2 (by omega)
  have HX : Hid (b < w.heap.size ∧ w.cell? ⟨b, off + i * 33 + 32, none⟩ = some (.slice x.a x.n x.c) ∧ x.name.length = 32 ∧ w.rangeAt b (off + i * 33) (U x.name)) := ⟨hb, (hel i x hx).dep, (hel i x hx).1, (hel i x hx).nm⟩
  have HDW : Hid (HsR w x.a x.n x.deps) := (hel i x hx).2.2.1
  have HT : Hid (HsR w p m told ∧ m ≤ 100000) := ⟨ht, hml⟩
  have q1 : (i : Int) < (len : Int) := by omega
  have q2 : (len : Int) ≤ 100000 := by omega
  have q3 : (x.n : Int) ≤ 90000 := by have h1 := dep_le l i x hx; have h2 := HDW.out.1; omega
  clear hel hb hx hil hi hn hm ht hml
  go_enter Try.func27, Try.ntmps27
  go_wp2_with (first
    | (with_reducible change wpList _ _ _ ({ dst := some 13, op := _, type := _, pos := _, after := _, guard := _ } :: _) _ _
       refine wpList_load_mid rfl 34 (.tmp 12) rfl b (off + i * 33) rfl (U x.name) _ HX.out.2.2.2 Try.underlying34 rfl (info34 x.name HX.out.2.2.1) ?_)
    | fail)
  cases hB : decide (x.name ∈ told) with
  | true =>
    have HBB : Hid (x.name ∈ told) := by show x.name ∈ told; simpa using hB
    refine (place_tell w p m c told x.name true HT.out.1 HX.out.2.2.1 HT.out.2 hB).mono ?_
    rintro e V1 ⟨z, rfl, HZ1, HB1⟩
    have q10 : 0 ≤ z := by have := HZ1.out; simp at this; omega
    clear hB
    go_wp2
    go_ret
    exact ⟨false, rfl, ⟨(fun h => by cases h), fun h => absurd HBB.out h.1⟩, HB1⟩
  | false =>
    have HBB : Hid (x.name ∉ told) := by show x.name ∉ told; simpa using hB
    refine (place_tell w p m c told x.name false HT.out.1 HX.out.2.2.1 HT.out.2 hB).mono ?_
    rintro e V1 ⟨z, rfl, HZ1, HB1⟩
    have q10 : ¬ 0 ≤ z := by have := HZ1.out; simp at this; omega
    clear hB
    go_wp2
    have hdf : decide (0 ≤ z) = false := by simpa using q10
    simp only [hdf]
    clear hdf
    go_loopw [7] (fun u wr => ∃ k : Nat, u = .int .i64 (k : Int) ∧ Hid (k ≤ x.n ∧ Below w.heap.size w wr ∧ ∀ d ∈ x.deps.take k, d ∈ told)) (fun u _ => x.n - (intOf u).toNat)
    case atStart => exact ⟨0, rfl, ⟨Nat.zero_le _, HB1.out, fun d hd => by simp at hd⟩⟩
    case round =>
      obtain ⟨k, rfl, HM⟩ := hrel
      have cd : wr.cell? ⟨b, off + i * 33 + 32, none⟩ = some (.slice x.a x.n x.c) := (HM.out.2.1.cell (p := ⟨b, _, none⟩) HX.out.1).trans HX.out.2.1
      by_cases hk : k < x.n
      · obtain ⟨d, hd⟩ : ∃ d, x.deps[k]? = some d := ⟨_, List.getElem?_eq_getElem (by rw [HDW.out.1]; exact hk)⟩
        obtain ⟨g2, off2, hxa, hg2, hel2⟩ := HDW.out.2.2 (by omega)
        have HDD : Hid (k < x.n ∧ d.length = 32 ∧ wr.rangeAt g2 (off2 + k * 32) (U d) ∧ x.deps[k]? = some d) := ⟨hk, HDW.out.2.1 d (List.mem_of_getElem? hd), rangeAt_same (hel2 k d hd) (HM.out.2.1.block g2 hg2), hd⟩
        have q9 : (k : Int) < (x.n : Int) := by omega
        rw [hxa] at cd
        clear hk hd hel2 hxa hg2
        go_wp2_with (first
          | (with_reducible change wpList _ _ _ ({ dst := some 34, op := _, type := _, pos := _, after := _, guard := _ } :: _) _ _
             refine wpList_load_mid rfl 34 (.tmp 33) rfl g2 (off2 + k * 32) rfl (U d) _ HDD.out.2.2.1 Try.underlying34 rfl (info34 d HDD.out.2.1) ?_)
          | fail)
        cases hB : decide (d ∈ told) with
        | true =>
          have HB2 : Hid (d ∈ told) := by show d ∈ told; simpa using hB
          refine (place_tell wr p m c told d true (HT.out.1.below HM.out.2.1) HDD.out.2.1 HT.out.2 hB).mono ?_
          rintro e V2 ⟨y, rfl, HZ2, HB3⟩
          have q11 : ¬ y < 0 := by have := HZ2.out; simp at this; omega
          clear hB cd
          go_wp2
          refine ⟨⟨k + 1, by simp, ⟨HDD.out.1, bt HM.out.2.1 HB3.out, fun e he => ?_⟩⟩, ?_⟩
          · rcases (dep_take_succ HDD.out.2.2.2 e).1 he with h1 | rfl
            · exact HM.out.2.2 e h1
            · exact HB2.out
          · have := HDD.out.1; simp [intOf]; omega
        | false =>
          have HB2 : Hid (d ∉ told) := by show d ∉ told; simpa using hB
          refine (place_tell wr p m c told d false (HT.out.1.below HM.out.2.1) HDD.out.2.1 HT.out.2 hB).mono ?_
          rintro e V2 ⟨y, rfl, HZ2, HB3⟩
          have q11 : y < 0 := by have := HZ2.out; simp at this; omega
          clear hB cd
          go_wp2
          go_ret
          exact ⟨false, rfl, ⟨(fun h => by cases h), fun h => absurd (h.2 d (List.mem_of_getElem? HDD.out.2.2.2)) HB2.out⟩, bt HM.out.2.1 HB3.out⟩
      · have q9 : ¬ (k : Int) < (x.n : Int) := by omega
        have HKN : Hid (k = x.n) := by have := HM.out.1; show _ = _; omega
        clear hk
        go_wp2
        go_ret
        refine ⟨true, rfl, ⟨fun _ => ⟨HBB.out, fun d hd => HM.out.2.2 d ?_⟩, fun _ => rfl⟩, HM.out.2.1⟩
        rw [List.take_of_length_le (by rw [HDW.out.1, HKN.out]; exact Nat.le_refl _)]
        exact hd
end Go.Proofs.Ytijkpkcopjkhkaa.Oct

/- Layer 12 (deps): the reference: Order: its choice, whatever its order. -/
namespace Go.Proofs.Ytijkpkcopjkhkaa.Oct
open Go.RowKit
set_option linter.unusedSimpArgs false

set_option maxRecDepth 100000 in
set_option maxHeartbeats 2000000 in
theorem pick_region_n {Q : Exit → Act → World → Prop} {x1 x2 x3 x5 x7 x8 x9 x10 x11 x12 x13 x14 x15 x16 x17 x18 x19 x20 x21 x22 x23 x24 x25 x26 x27 x28 x29 x30 x31 x32 x33 x34 x35 x36 x37 x38 x39 x40 x41 x42 x43 x44 x45 x46 x47 x48 x49 x50 x51 x52 x53 x54 x55 x56 x57 x58 x59 : Value} {ds : List Deferred} {A : World} {g off n c i m d : Nat} {p : Option Addr}
    (h27 : Hid (∀ V, Below A.heap.size A V → Calls Try.prog 27 #[.slice (some ⟨g, off, none⟩) n c, .slice p m d, .int .i64 (i : Int)] V fun e V1 => e = .returned (.bool false) ∧ Hid (Below V.heap.size V V1)))
    (hQ : ∀ (V : World), Below A.heap.size A V → Q .normal { tmps := #[.slice (some ⟨g, off, none⟩) n c, x1, x2, x3, .slice p m d, x5, .int .i64 (i : Int), x7, x8, x9, x10, x11, x12, x13, x14, x15, x16, x17, x18, x19, x20, x21, x22, x23, x24, x25, x26, .slice (some ⟨g, off, none⟩) n c, .slice p m d, .int .i64 (i : Int), .bool false, .bool false, undef, undef, undef, undef, undef, undef, undef, undef, undef, undef, undef, undef, undef, undef, undef, .bool false, x48, x49, x50, x51, x52, x53, x54, x55, x56, x57, x58, x59], defers := ds } V) :
    (Code.region 13 #[{ dst := some 27, op := Op.move (Operand.tmp 0), type := 22, pos := "ref.go:136", after := #[], guard := none }, { dst := some 28, op := Op.move (Operand.tmp 4), type := 26, pos := "ref.go:136", after := #[], guard := none }, { dst := some 29, op := Op.move (Operand.tmp 6), type := 3, pos := "ref.go:136", after := #[], guard := none }, { dst := some 30, op := Op.call { callee := Callee.value (Operand.func 27), args := #[Operand.tmp 27, Operand.tmp 28, Operand.tmp 29], argTypes := #[22, 26, 3] }, type := 4, pos := "ref.go:136", after := #[{ on := 0, ground := Ground.data }, { on := 1, ground := Ground.data }, { on := 2, ground := Ground.data }], guard := none }, { dst := some 31, op := Op.move (Operand.tmp 30), type := 4, pos := "ref.go:136", after := #[{ on := 3, ground := Ground.data }, { on := 3, ground := Ground.chain }], guard := none }, { dst := some 32, op := Op.move (Operand.tmp 5), type := 3, pos := "ref.go:136", after := #[{ on := 4, ground := Ground.guard }], guard := some (4, true) }, { dst := some 33, op := Op.binOp BinOp.lss 3 (Operand.tmp 32) (Operand.const (Value.int IntKind.i64 0)) 3, type := 4, pos := "ref.go:136", after := #[{ on := 5, ground := Ground.data }, { on := 4, ground := Ground.guard }], guard := some (4, true) }, { dst := some 34, op := Op.move (Operand.tmp 33), type := 4, pos := "ref.go:136", after := #[{ on := 6, ground := Ground.data }, { on := 4, ground := Ground.chain }, { on := 4, ground := Ground.guard }], guard := some (4, true) }, { dst := some 35, op := Op.move (Operand.tmp 0), type := 22, pos := "ref.go:136", after := #[{ on := 7, ground := Ground.guard }], guard := some (7, false) }, { dst := some 36, op := Op.move (Operand.tmp 6), type := 3, pos := "ref.go:136", after := #[{ on := 7, ground := Ground.guard }], guard := some (7, false) }, { dst := some 37, op := Op.indexAddr 22 (Operand.tmp 35) (Operand.tmp 36), type := 0, pos := "ref.go:136", after := #[{ on := 8, ground := Ground.data }, { on := 9, ground := Ground.data }, { on := 7, ground := Ground.guard }], guard := some (7, false) }, { dst := some 38, op := Op.fieldAddr 36 (Operand.tmp 37) 0, type := 0, pos := "ref.go:136", after := #[{ on := 10, ground := Ground.data }, { on := 7, ground := Ground.guard }], guard := some (7, false) }, { dst := some 39, op := Op.load 34 (Operand.tmp 38), type := 34, pos := "ref.go:136", after := #[{ on := 11, ground := Ground.data }, { on := 7, ground := Ground.guard }], guard := some (7, false) }, { dst := some 40, op := Op.move (Operand.tmp 0), type := 22, pos := "ref.go:136", after := #[{ on := 7, ground := Ground.guard }], guard := some (7, false) }, { dst := some 41, op := Op.move (Operand.tmp 5), type := 3, pos := "ref.go:136", after := #[{ on := 7, ground := Ground.guard }], guard := some (7, false) }, { dst := some 42, op := Op.indexAddr 22 (Operand.tmp 40) (Operand.tmp 41), type := 0, pos := "ref.go:136", after := #[{ on := 13, ground := Ground.data }, { on := 14, ground := Ground.data }, { on := 7, ground := Ground.guard }], guard := some (7, false) }, { dst := some 43, op := Op.fieldAddr 36 (Operand.tmp 42) 0, type := 0, pos := "ref.go:136", after := #[{ on := 15, ground := Ground.data }, { on := 7, ground := Ground.guard }], guard := some (7, false) }, { dst := some 44, op := Op.load 34 (Operand.tmp 43), type := 34, pos := "ref.go:136", after := #[{ on := 16, ground := Ground.data }, { on := 7, ground := Ground.guard }], guard := some (7, false) }, { dst := some 45, op := Op.call { callee := Callee.value (Operand.func 28), args := #[Operand.tmp 39, Operand.tmp 44], argTypes := #[34, 34] }, type := 4, pos := "ref.go:136", after := #[{ on := 12, ground := Ground.data }, { on := 17, ground := Ground.data }, { on := 7, ground := Ground.chain }, { on := 7, ground := Ground.guard }], guard := some (7, false) }, { dst := some 46, op := Op.pick (Operand.tmp 34) (Operand.const (Value.bool true)) (Operand.tmp 45), type := 4, pos := "ref.go:136", after := #[{ on := 7, ground := Ground.data }, { on := 18, ground := Ground.data }, { on := 4, ground := Ground.guard }], guard := some (4, true) }, { dst := some 47, op := Op.pick (Operand.tmp 31) (Operand.tmp 46) (Operand.const (Value.bool false)), type := 4, pos := "ref.go:136", after := #[{ on := 4, ground := Ground.data }, { on := 19, ground := Ground.data }], guard := none }] true).wp Try.prog Q { tmps := #[.slice (some ⟨g, off, none⟩) n c, x1, x2, x3, .slice p m d, x5, .int .i64 (i : Int), x7, x8, x9, x10, x11, x12, x13, x14, x15, x16, x17, x18, x19, x20, x21, x22, x23, x24, x25, x26, x27, x28, x29, x30, x31, x32, x33, x34, x35, x36, x37, x38, x39, x40, x41, x42, x43, x44, x45, x46, x47, x48, x49, x50, x51, x52, x53, x54, x55, x56, x57, x58, x59], defers := ds } A := by
  refine Code.wp_mono (Q := fun x a' w' => match x with | .normal => Q .normal a' w' | _ => False) (by intro x a' w' h; cases x <;> first | exact h | exact h.elim) ?_
  refine wp_region_held (S := fun V => Below A.heap.size A V) (by kernel_rfl) ?_
  have hS0 : Hid (Below A.heap.size A A.drew) := below_drew A
  change wpAnyH Try.prog .any _ _ (fun V => Below A.heap.size A V) 21 (Array.replicate 21 false) _ A.drew
  refine wpAnyH_take (i := 0) (oi := { dst := some 27, op := Op.move (Operand.tmp 0), type := 22, pos := "ref.go:136", after := #[], guard := none }) (v := .slice (some ⟨g, off, none⟩) n c) rfl (by kernel_rfl) (by kernel_rfl) (by kernel_rfl) (fun _ _ _ h => h.elim) (Or.inl ⟨by rfl, ?y0⟩) hS0.out ?_
  case y0 =>
    intro V hV
    go_simp
  simp only [Act.put, List.setIfInBounds_toArray, List.set_cons_zero, List.set_cons_succ]
  refine wpAnyH_take (i := 1) (oi := { dst := some 28, op := Op.move (Operand.tmp 4), type := 26, pos := "ref.go:136", after := #[], guard := none }) (v := .slice p m d) rfl (by kernel_rfl) (by kernel_rfl) (by kernel_rfl) (fun _ _ _ h => h.elim) (Or.inl ⟨by rfl, ?y1⟩) hS0.out ?_
  case y1 =>
    intro V hV
    go_simp
  simp only [Act.put, List.setIfInBounds_toArray, List.set_cons_zero, List.set_cons_succ]
  refine wpAnyH_take (i := 2) (oi := { dst := some 29, op := Op.move (Operand.tmp 6), type := 3, pos := "ref.go:136", after := #[], guard := none }) (v := .int .i64 (i : Int)) rfl (by kernel_rfl) (by kernel_rfl) (by kernel_rfl) (fun _ _ _ h => h.elim) (Or.inl ⟨by rfl, ?y2⟩) hS0.out ?_
  case y2 =>
    intro V hV
    go_simp
  simp only [Act.put, List.setIfInBounds_toArray, List.set_cons_zero, List.set_cons_succ]
  refine wpAnyH_ready (rs := [3]) (by kernel_rfl) (by simp) (AllReadyH.cons (i := 3) (o := { dst := some 30, op := Op.call { callee := Callee.value (Operand.func 27), args := #[Operand.tmp 27, Operand.tmp 28, Operand.tmp 29], argTypes := #[22, 26, 3] }, type := 4, pos := "ref.go:136", after := #[{ on := 0, ground := Ground.data }, { on := 1, ground := Ground.data }, { on := 2, ground := Ground.data }], guard := none }) rfl ?_ AllReadyH.nil)
  intro K1 hK1
  rw [if_pos (by rfl)]
  have HC1 := h27.out A.drew hS0.out
  go_wp2_with fail
  refine HC1.mono ?_
  rintro e V1 ⟨rfl, HB1⟩
  dsimp only
  clear HC1
  have hS1 : Hid (Below A.heap.size A V1) := hS0.out.trans (HB1.out.mono hS0.out.size)
  refine hK1.out _ _ hS1.out ?_
  clear hK1
  intro _
  try simp only [Act.put, List.setIfInBounds_toArray, List.set_cons_zero, List.set_cons_succ]
  refine wpAnyH_take (i := 4) (oi := { dst := some 31, op := Op.move (Operand.tmp 30), type := 4, pos := "ref.go:136", after := #[{ on := 3, ground := Ground.data }, { on := 3, ground := Ground.chain }], guard := none }) (v := .bool false) rfl (by kernel_rfl) (by kernel_rfl) (by kernel_rfl) (fun _ _ _ h => h.elim) (Or.inl ⟨by rfl, ?y4⟩) hS1.out ?_
  case y4 =>
    intro V hV
    go_simp
  simp only [Act.put, List.setIfInBounds_toArray, List.set_cons_zero, List.set_cons_succ]
  refine wpAnyH_take (i := 5) (oi := { dst := some 32, op := Op.move (Operand.tmp 5), type := 3, pos := "ref.go:136", after := #[{ on := 4, ground := Ground.guard }], guard := some (4, true) }) (v := undef) rfl (by kernel_rfl) (by kernel_rfl) (by kernel_rfl) (fun _ _ _ h => h.elim) (Or.inr ⟨by rfl, rfl⟩) hS1.out ?_
  simp only [Act.put, List.setIfInBounds_toArray, List.set_cons_zero, List.set_cons_succ]
  refine wpAnyH_take (i := 6) (oi := { dst := some 33, op := Op.binOp BinOp.lss 3 (Operand.tmp 32) (Operand.const (Value.int IntKind.i64 0)) 3, type := 4, pos := "ref.go:136", after := #[{ on := 5, ground := Ground.data }, { on := 4, ground := Ground.guard }], guard := some (4, true) }) (v := undef) rfl (by kernel_rfl) (by kernel_rfl) (by kernel_rfl) (fun _ _ _ h => h.elim) (Or.inr ⟨by rfl, rfl⟩) hS1.out ?_
  simp only [Act.put, List.setIfInBounds_toArray, List.set_cons_zero, List.set_cons_succ]
  refine wpAnyH_take (i := 7) (oi := { dst := some 34, op := Op.move (Operand.tmp 33), type := 4, pos := "ref.go:136", after := #[{ on := 6, ground := Ground.data }, { on := 4, ground := Ground.chain }, { on := 4, ground := Ground.guard }], guard := some (4, true) }) (v := undef) rfl (by kernel_rfl) (by kernel_rfl) (by kernel_rfl) (fun _ _ _ h => h.elim) (Or.inr ⟨by rfl, rfl⟩) hS1.out ?_
  simp only [Act.put, List.setIfInBounds_toArray, List.set_cons_zero, List.set_cons_succ]
  refine wpAnyH_take (i := 8) (oi := { dst := some 35, op := Op.move (Operand.tmp 0), type := 22, pos := "ref.go:136", after := #[{ on := 7, ground := Ground.guard }], guard := some (7, false) }) (v := undef) rfl (by kernel_rfl) (by kernel_rfl) (by kernel_rfl) (fun _ _ _ h => h.elim) (Or.inr ⟨by rfl, rfl⟩) hS1.out ?_
  simp only [Act.put, List.setIfInBounds_toArray, List.set_cons_zero, List.set_cons_succ]
  refine wpAnyH_take (i := 9) (oi := { dst := some 36, op := Op.move (Operand.tmp 6), type := 3, pos := "ref.go:136", after := #[{ on := 7, ground := Ground.guard }], guard := some (7, false) }) (v := undef) rfl (by kernel_rfl) (by kernel_rfl) (by kernel_rfl) (fun _ _ _ h => h.elim) (Or.inr ⟨by rfl, rfl⟩) hS1.out ?_
  simp only [Act.put, List.setIfInBounds_toArray, List.set_cons_zero, List.set_cons_succ]
  refine wpAnyH_take (i := 10) (oi := { dst := some 37, op := Op.indexAddr 22 (Operand.tmp 35) (Operand.tmp 36), type := 0, pos := "ref.go:136", after := #[{ on := 8, ground := Ground.data }, { on := 9, ground := Ground.data }, { on := 7, ground := Ground.guard }], guard := some (7, false) }) (v := undef) rfl (by kernel_rfl) (by kernel_rfl) (by kernel_rfl) (fun _ _ _ h => h.elim) (Or.inr ⟨by rfl, rfl⟩) hS1.out ?_
  simp only [Act.put, List.setIfInBounds_toArray, List.set_cons_zero, List.set_cons_succ]
  refine wpAnyH_take (i := 11) (oi := { dst := some 38, op := Op.fieldAddr 36 (Operand.tmp 37) 0, type := 0, pos := "ref.go:136", after := #[{ on := 10, ground := Ground.data }, { on := 7, ground := Ground.guard }], guard := some (7, false) }) (v := undef) rfl (by kernel_rfl) (by kernel_rfl) (by kernel_rfl) (fun _ _ _ h => h.elim) (Or.inr ⟨by rfl, rfl⟩) hS1.out ?_
  simp only [Act.put, List.setIfInBounds_toArray, List.set_cons_zero, List.set_cons_succ]
  refine wpAnyH_take (i := 12) (oi := { dst := some 39, op := Op.load 34 (Operand.tmp 38), type := 34, pos := "ref.go:136", after := #[{ on := 11, ground := Ground.data }, { on := 7, ground := Ground.guard }], guard := some (7, false) }) (v := undef) rfl (by kernel_rfl) (by kernel_rfl) (by kernel_rfl) (fun _ _ _ h => h.elim) (Or.inr ⟨by rfl, rfl⟩) hS1.out ?_
  simp only [Act.put, List.setIfInBounds_toArray, List.set_cons_zero, List.set_cons_succ]
  refine wpAnyH_take (i := 13) (oi := { dst := some 40, op := Op.move (Operand.tmp 0), type := 22, pos := "ref.go:136", after := #[{ on := 7, ground := Ground.guard }], guard := some (7, false) }) (v := undef) rfl (by kernel_rfl) (by kernel_rfl) (by kernel_rfl) (fun _ _ _ h => h.elim) (Or.inr ⟨by rfl, rfl⟩) hS1.out ?_
  simp only [Act.put, List.setIfInBounds_toArray, List.set_cons_zero, List.set_cons_succ]
  refine wpAnyH_take (i := 14) (oi := { dst := some 41, op := Op.move (Operand.tmp 5), type := 3, pos := "ref.go:136", after := #[{ on := 7, ground := Ground.guard }], guard := some (7, false) }) (v := undef) rfl (by kernel_rfl) (by kernel_rfl) (by kernel_rfl) (fun _ _ _ h => h.elim) (Or.inr ⟨by rfl, rfl⟩) hS1.out ?_
  simp only [Act.put, List.setIfInBounds_toArray, List.set_cons_zero, List.set_cons_succ]
  refine wpAnyH_take (i := 15) (oi := { dst := some 42, op := Op.indexAddr 22 (Operand.tmp 40) (Operand.tmp 41), type := 0, pos := "ref.go:136", after := #[{ on := 13, ground := Ground.data }, { on := 14, ground := Ground.data }, { on := 7, ground := Ground.guard }], guard := some (7, false) }) (v := undef) rfl (by kernel_rfl) (by kernel_rfl) (by kernel_rfl) (fun _ _ _ h => h.elim) (Or.inr ⟨by rfl, rfl⟩) hS1.out ?_
  simp only [Act.put, List.setIfInBounds_toArray, List.set_cons_zero, List.set_cons_succ]
  refine wpAnyH_take (i := 16) (oi := { dst := some 43, op := Op.fieldAddr 36 (Operand.tmp 42) 0, type := 0, pos := "ref.go:136", after := #[{ on := 15, ground := Ground.data }, { on := 7, ground := Ground.guard }], guard := some (7, false) }) (v := undef) rfl (by kernel_rfl) (by kernel_rfl) (by kernel_rfl) (fun _ _ _ h => h.elim) (Or.inr ⟨by rfl, rfl⟩) hS1.out ?_
  simp only [Act.put, List.setIfInBounds_toArray, List.set_cons_zero, List.set_cons_succ]
  refine wpAnyH_take (i := 17) (oi := { dst := some 44, op := Op.load 34 (Operand.tmp 43), type := 34, pos := "ref.go:136", after := #[{ on := 16, ground := Ground.data }, { on := 7, ground := Ground.guard }], guard := some (7, false) }) (v := undef) rfl (by kernel_rfl) (by kernel_rfl) (by kernel_rfl) (fun _ _ _ h => h.elim) (Or.inr ⟨by rfl, rfl⟩) hS1.out ?_
  simp only [Act.put, List.setIfInBounds_toArray, List.set_cons_zero, List.set_cons_succ]
  refine wpAnyH_take (i := 18) (oi := { dst := some 45, op := Op.call { callee := Callee.value (Operand.func 28), args := #[Operand.tmp 39, Operand.tmp 44], argTypes := #[34, 34] }, type := 4, pos := "ref.go:136", after := #[{ on := 12, ground := Ground.data }, { on := 17, ground := Ground.data }, { on := 7, ground := Ground.chain }, { on := 7, ground := Ground.guard }], guard := some (7, false) }) (v := undef) rfl (by kernel_rfl) (by kernel_rfl) (by kernel_rfl) (fun _ _ _ h => h.elim) (Or.inr ⟨by rfl, rfl⟩) hS1.out ?_
  simp only [Act.put, List.setIfInBounds_toArray, List.set_cons_zero, List.set_cons_succ]
  refine wpAnyH_take (i := 19) (oi := { dst := some 46, op := Op.pick (Operand.tmp 34) (Operand.const (Value.bool true)) (Operand.tmp 45), type := 4, pos := "ref.go:136", after := #[{ on := 7, ground := Ground.data }, { on := 18, ground := Ground.data }, { on := 4, ground := Ground.guard }], guard := some (4, true) }) (v := undef) rfl (by kernel_rfl) (by kernel_rfl) (by kernel_rfl) (fun _ _ _ h => h.elim) (Or.inr ⟨by rfl, rfl⟩) hS1.out ?_
  simp only [Act.put, List.setIfInBounds_toArray, List.set_cons_zero, List.set_cons_succ]
  refine wpAnyH_take (i := 20) (oi := { dst := some 47, op := Op.pick (Operand.tmp 31) (Operand.tmp 46) (Operand.const (Value.bool false)), type := 4, pos := "ref.go:136", after := #[{ on := 4, ground := Ground.data }, { on := 19, ground := Ground.data }], guard := none }) (v := .bool false) rfl (by kernel_rfl) (by kernel_rfl) (by kernel_rfl) (fun _ _ _ h => h.elim) (Or.inl ⟨by rfl, ?y20⟩) hS1.out ?_
  case y20 =>
    intro V hV
    go_simp
  simp only [Act.put, List.setIfInBounds_toArray, List.set_cons_zero, List.set_cons_succ]
  refine wpAnyH_done (by kernel_rfl) ?_ _
  exact hQ V1 hS1.out
set_option maxRecDepth 100000 in
set_option maxHeartbeats 2000000 in
theorem pick_region_b {Q : Exit → Act → World → Prop} {x1 x2 x3 x7 x8 x9 x10 x11 x12 x13 x14 x15 x16 x17 x18 x19 x20 x21 x22 x23 x24 x25 x26 x27 x28 x29 x30 x31 x32 x33 x34 x35 x36 x37 x38 x39 x40 x41 x42 x43 x44 x45 x46 x47 x48 x49 x50 x51 x52 x53 x54 x55 x56 x57 x58 x59 : Value} {ds : List Deferred} {A : World} {g off n c i m d : Nat} {p : Option Addr}
    (h27 : Hid (∀ V, Below A.heap.size A V → Calls Try.prog 27 #[.slice (some ⟨g, off, none⟩) n c, .slice p m d, .int .i64 (i : Int)] V fun e V1 => e = .returned (.bool true) ∧ Hid (Below V.heap.size V V1)))
    (hQ : ∀ (V : World), Below A.heap.size A V → Q .normal { tmps := #[.slice (some ⟨g, off, none⟩) n c, x1, x2, x3, .slice p m d, .int .i64 (-1), .int .i64 (i : Int), x7, x8, x9, x10, x11, x12, x13, x14, x15, x16, x17, x18, x19, x20, x21, x22, x23, x24, x25, x26, .slice (some ⟨g, off, none⟩) n c, .slice p m d, .int .i64 (i : Int), .bool true, .bool true, .int .i64 (-1), .bool true, .bool true, undef, undef, undef, undef, undef, undef, undef, undef, undef, undef, undef, .bool true, .bool true, x48, x49, x50, x51, x52, x53, x54, x55, x56, x57, x58, x59], defers := ds } V) :
    (Code.region 13 #[{ dst := some 27, op := Op.move (Operand.tmp 0), type := 22, pos := "ref.go:136", after := #[], guard := none }, { dst := some 28, op := Op.move (Operand.tmp 4), type := 26, pos := "ref.go:136", after := #[], guard := none }, { dst := some 29, op := Op.move (Operand.tmp 6), type := 3, pos := "ref.go:136", after := #[], guard := none }, { dst := some 30, op := Op.call { callee := Callee.value (Operand.func 27), args := #[Operand.tmp 27, Operand.tmp 28, Operand.tmp 29], argTypes := #[22, 26, 3] }, type := 4, pos := "ref.go:136", after := #[{ on := 0, ground := Ground.data }, { on := 1, ground := Ground.data }, { on := 2, ground := Ground.data }], guard := none }, { dst := some 31, op := Op.move (Operand.tmp 30), type := 4, pos := "ref.go:136", after := #[{ on := 3, ground := Ground.data }, { on := 3, ground := Ground.chain }], guard := none }, { dst := some 32, op := Op.move (Operand.tmp 5), type := 3, pos := "ref.go:136", after := #[{ on := 4, ground := Ground.guard }], guard := some (4, true) }, { dst := some 33, op := Op.binOp BinOp.lss 3 (Operand.tmp 32) (Operand.const (Value.int IntKind.i64 0)) 3, type := 4, pos := "ref.go:136", after := #[{ on := 5, ground := Ground.data }, { on := 4, ground := Ground.guard }], guard := some (4, true) }, { dst := some 34, op := Op.move (Operand.tmp 33), type := 4, pos := "ref.go:136", after := #[{ on := 6, ground := Ground.data }, { on := 4, ground := Ground.chain }, { on := 4, ground := Ground.guard }], guard := some (4, true) }, { dst := some 35, op := Op.move (Operand.tmp 0), type := 22, pos := "ref.go:136", after := #[{ on := 7, ground := Ground.guard }], guard := some (7, false) }, { dst := some 36, op := Op.move (Operand.tmp 6), type := 3, pos := "ref.go:136", after := #[{ on := 7, ground := Ground.guard }], guard := some (7, false) }, { dst := some 37, op := Op.indexAddr 22 (Operand.tmp 35) (Operand.tmp 36), type := 0, pos := "ref.go:136", after := #[{ on := 8, ground := Ground.data }, { on := 9, ground := Ground.data }, { on := 7, ground := Ground.guard }], guard := some (7, false) }, { dst := some 38, op := Op.fieldAddr 36 (Operand.tmp 37) 0, type := 0, pos := "ref.go:136", after := #[{ on := 10, ground := Ground.data }, { on := 7, ground := Ground.guard }], guard := some (7, false) }, { dst := some 39, op := Op.load 34 (Operand.tmp 38), type := 34, pos := "ref.go:136", after := #[{ on := 11, ground := Ground.data }, { on := 7, ground := Ground.guard }], guard := some (7, false) }, { dst := some 40, op := Op.move (Operand.tmp 0), type := 22, pos := "ref.go:136", after := #[{ on := 7, ground := Ground.guard }], guard := some (7, false) }, { dst := some 41, op := Op.move (Operand.tmp 5), type := 3, pos := "ref.go:136", after := #[{ on := 7, ground := Ground.guard }], guard := some (7, false) }, { dst := some 42, op := Op.indexAddr 22 (Operand.tmp 40) (Operand.tmp 41), type := 0, pos := "ref.go:136", after := #[{ on := 13, ground := Ground.data }, { on := 14, ground := Ground.data }, { on := 7, ground := Ground.guard }], guard := some (7, false) }, { dst := some 43, op := Op.fieldAddr 36 (Operand.tmp 42) 0, type := 0, pos := "ref.go:136", after := #[{ on := 15, ground := Ground.data }, { on := 7, ground := Ground.guard }], guard := some (7, false) }, { dst := some 44, op := Op.load 34 (Operand.tmp 43), type := 34, pos := "ref.go:136", after := #[{ on := 16, ground := Ground.data }, { on := 7, ground := Ground.guard }], guard := some (7, false) }, { dst := some 45, op := Op.call { callee := Callee.value (Operand.func 28), args := #[Operand.tmp 39, Operand.tmp 44], argTypes := #[34, 34] }, type := 4, pos := "ref.go:136", after := #[{ on := 12, ground := Ground.data }, { on := 17, ground := Ground.data }, { on := 7, ground := Ground.chain }, { on := 7, ground := Ground.guard }], guard := some (7, false) }, { dst := some 46, op := Op.pick (Operand.tmp 34) (Operand.const (Value.bool true)) (Operand.tmp 45), type := 4, pos := "ref.go:136", after := #[{ on := 7, ground := Ground.data }, { on := 18, ground := Ground.data }, { on := 4, ground := Ground.guard }], guard := some (4, true) }, { dst := some 47, op := Op.pick (Operand.tmp 31) (Operand.tmp 46) (Operand.const (Value.bool false)), type := 4, pos := "ref.go:136", after := #[{ on := 4, ground := Ground.data }, { on := 19, ground := Ground.data }], guard := none }] true).wp Try.prog Q { tmps := #[.slice (some ⟨g, off, none⟩) n c, x1, x2, x3, .slice p m d, .int .i64 (-1), .int .i64 (i : Int), x7, x8, x9, x10, x11, x12, x13, x14, x15, x16, x17, x18, x19, x20, x21, x22, x23, x24, x25, x26, x27, x28, x29, x30, x31, x32, x33, x34, x35, x36, x37, x38, x39, x40, x41, x42, x43, x44, x45, x46, x47, x48, x49, x50, x51, x52, x53, x54, x55, x56, x57, x58, x59], defers := ds } A := by
  refine Code.wp_mono (Q := fun x a' w' => match x with | .normal => Q .normal a' w' | _ => False) (by intro x a' w' h; cases x <;> first | exact h | exact h.elim) ?_
  refine wp_region_held (S := fun V => Below A.heap.size A V) (by kernel_rfl) ?_
  have hS0 : Hid (Below A.heap.size A A.drew) := below_drew A
  change wpAnyH Try.prog .any _ _ (fun V => Below A.heap.size A V) 21 (Array.replicate 21 false) _ A.drew
  refine wpAnyH_take (i := 0) (oi := { dst := some 27, op := Op.move (Operand.tmp 0), type := 22, pos := "ref.go:136", after := #[], guard := none }) (v := .slice (some ⟨g, off, none⟩) n c) rfl (by kernel_rfl) (by kernel_rfl) (by kernel_rfl) (fun _ _ _ h => h.elim) (Or.inl ⟨by rfl, ?y0⟩) hS0.out ?_
  case y0 =>
    intro V hV
    go_simp
  simp only [Act.put, List.setIfInBounds_toArray, List.set_cons_zero, List.set_cons_succ]
  refine wpAnyH_take (i := 1) (oi := { dst := some 28, op := Op.move (Operand.tmp 4), type := 26, pos := "ref.go:136", after := #[], guard := none }) (v := .slice p m d) rfl (by kernel_rfl) (by kernel_rfl) (by kernel_rfl) (fun _ _ _ h => h.elim) (Or.inl ⟨by rfl, ?y1⟩) hS0.out ?_
  case y1 =>
    intro V hV
    go_simp
  simp only [Act.put, List.setIfInBounds_toArray, List.set_cons_zero, List.set_cons_succ]
  refine wpAnyH_take (i := 2) (oi := { dst := some 29, op := Op.move (Operand.tmp 6), type := 3, pos := "ref.go:136", after := #[], guard := none }) (v := .int .i64 (i : Int)) rfl (by kernel_rfl) (by kernel_rfl) (by kernel_rfl) (fun _ _ _ h => h.elim) (Or.inl ⟨by rfl, ?y2⟩) hS0.out ?_
  case y2 =>
    intro V hV
    go_simp
  simp only [Act.put, List.setIfInBounds_toArray, List.set_cons_zero, List.set_cons_succ]
  refine wpAnyH_ready (rs := [3]) (by kernel_rfl) (by simp) (AllReadyH.cons (i := 3) (o := { dst := some 30, op := Op.call { callee := Callee.value (Operand.func 27), args := #[Operand.tmp 27, Operand.tmp 28, Operand.tmp 29], argTypes := #[22, 26, 3] }, type := 4, pos := "ref.go:136", after := #[{ on := 0, ground := Ground.data }, { on := 1, ground := Ground.data }, { on := 2, ground := Ground.data }], guard := none }) rfl ?_ AllReadyH.nil)
  intro K1 hK1
  rw [if_pos (by rfl)]
  have HC1 := h27.out A.drew hS0.out
  go_wp2_with fail
  refine HC1.mono ?_
  rintro e V1 ⟨rfl, HB1⟩
  dsimp only
  clear HC1
  have hS1 : Hid (Below A.heap.size A V1) := hS0.out.trans (HB1.out.mono hS0.out.size)
  refine hK1.out _ _ hS1.out ?_
  clear hK1
  intro _
  try simp only [Act.put, List.setIfInBounds_toArray, List.set_cons_zero, List.set_cons_succ]
  refine wpAnyH_take (i := 4) (oi := { dst := some 31, op := Op.move (Operand.tmp 30), type := 4, pos := "ref.go:136", after := #[{ on := 3, ground := Ground.data }, { on := 3, ground := Ground.chain }], guard := none }) (v := .bool true) rfl (by kernel_rfl) (by kernel_rfl) (by kernel_rfl) (fun _ _ _ h => h.elim) (Or.inl ⟨by rfl, ?y4⟩) hS1.out ?_
  case y4 =>
    intro V hV
    go_simp
  simp only [Act.put, List.setIfInBounds_toArray, List.set_cons_zero, List.set_cons_succ]
  refine wpAnyH_take (i := 5) (oi := { dst := some 32, op := Op.move (Operand.tmp 5), type := 3, pos := "ref.go:136", after := #[{ on := 4, ground := Ground.guard }], guard := some (4, true) }) (v := .int .i64 (-1)) rfl (by kernel_rfl) (by kernel_rfl) (by kernel_rfl) (fun _ _ _ h => h.elim) (Or.inl ⟨by rfl, ?y5⟩) hS1.out ?_
  case y5 =>
    intro V hV
    go_simp
  simp only [Act.put, List.setIfInBounds_toArray, List.set_cons_zero, List.set_cons_succ]
  refine wpAnyH_take (i := 6) (oi := { dst := some 33, op := Op.binOp BinOp.lss 3 (Operand.tmp 32) (Operand.const (Value.int IntKind.i64 0)) 3, type := 4, pos := "ref.go:136", after := #[{ on := 5, ground := Ground.data }, { on := 4, ground := Ground.guard }], guard := some (4, true) }) (v := .bool true) rfl (by kernel_rfl) (by kernel_rfl) (by kernel_rfl) (fun _ _ _ h => h.elim) (Or.inl ⟨by rfl, ?y6⟩) hS1.out ?_
  case y6 =>
    intro V hV
    go_simp
  simp only [Act.put, List.setIfInBounds_toArray, List.set_cons_zero, List.set_cons_succ]
  refine wpAnyH_take (i := 7) (oi := { dst := some 34, op := Op.move (Operand.tmp 33), type := 4, pos := "ref.go:136", after := #[{ on := 6, ground := Ground.data }, { on := 4, ground := Ground.chain }, { on := 4, ground := Ground.guard }], guard := some (4, true) }) (v := .bool true) rfl (by kernel_rfl) (by kernel_rfl) (by kernel_rfl) (fun _ _ _ h => h.elim) (Or.inl ⟨by rfl, ?y7⟩) hS1.out ?_
  case y7 =>
    intro V hV
    go_simp
  simp only [Act.put, List.setIfInBounds_toArray, List.set_cons_zero, List.set_cons_succ]
  refine wpAnyH_take (i := 8) (oi := { dst := some 35, op := Op.move (Operand.tmp 0), type := 22, pos := "ref.go:136", after := #[{ on := 7, ground := Ground.guard }], guard := some (7, false) }) (v := undef) rfl (by kernel_rfl) (by kernel_rfl) (by kernel_rfl) (fun _ _ _ h => h.elim) (Or.inr ⟨by rfl, rfl⟩) hS1.out ?_
  simp only [Act.put, List.setIfInBounds_toArray, List.set_cons_zero, List.set_cons_succ]
  refine wpAnyH_take (i := 9) (oi := { dst := some 36, op := Op.move (Operand.tmp 6), type := 3, pos := "ref.go:136", after := #[{ on := 7, ground := Ground.guard }], guard := some (7, false) }) (v := undef) rfl (by kernel_rfl) (by kernel_rfl) (by kernel_rfl) (fun _ _ _ h => h.elim) (Or.inr ⟨by rfl, rfl⟩) hS1.out ?_
  simp only [Act.put, List.setIfInBounds_toArray, List.set_cons_zero, List.set_cons_succ]
  refine wpAnyH_take (i := 10) (oi := { dst := some 37, op := Op.indexAddr 22 (Operand.tmp 35) (Operand.tmp 36), type := 0, pos := "ref.go:136", after := #[{ on := 8, ground := Ground.data }, { on := 9, ground := Ground.data }, { on := 7, ground := Ground.guard }], guard := some (7, false) }) (v := undef) rfl (by kernel_rfl) (by kernel_rfl) (by kernel_rfl) (fun _ _ _ h => h.elim) (Or.inr ⟨by rfl, rfl⟩) hS1.out ?_
  simp only [Act.put, List.setIfInBounds_toArray, List.set_cons_zero, List.set_cons_succ]
  refine wpAnyH_take (i := 11) (oi := { dst := some 38, op := Op.fieldAddr 36 (Operand.tmp 37) 0, type := 0, pos := "ref.go:136", after := #[{ on := 10, ground := Ground.data }, { on := 7, ground := Ground.guard }], guard := some (7, false) }) (v := undef) rfl (by kernel_rfl) (by kernel_rfl) (by kernel_rfl) (fun _ _ _ h => h.elim) (Or.inr ⟨by rfl, rfl⟩) hS1.out ?_
  simp only [Act.put, List.setIfInBounds_toArray, List.set_cons_zero, List.set_cons_succ]
  refine wpAnyH_take (i := 12) (oi := { dst := some 39, op := Op.load 34 (Operand.tmp 38), type := 34, pos := "ref.go:136", after := #[{ on := 11, ground := Ground.data }, { on := 7, ground := Ground.guard }], guard := some (7, false) }) (v := undef) rfl (by kernel_rfl) (by kernel_rfl) (by kernel_rfl) (fun _ _ _ h => h.elim) (Or.inr ⟨by rfl, rfl⟩) hS1.out ?_
  simp only [Act.put, List.setIfInBounds_toArray, List.set_cons_zero, List.set_cons_succ]
  refine wpAnyH_take (i := 13) (oi := { dst := some 40, op := Op.move (Operand.tmp 0), type := 22, pos := "ref.go:136", after := #[{ on := 7, ground := Ground.guard }], guard := some (7, false) }) (v := undef) rfl (by kernel_rfl) (by kernel_rfl) (by kernel_rfl) (fun _ _ _ h => h.elim) (Or.inr ⟨by rfl, rfl⟩) hS1.out ?_
  simp only [Act.put, List.setIfInBounds_toArray, List.set_cons_zero, List.set_cons_succ]
  refine wpAnyH_take (i := 14) (oi := { dst := some 41, op := Op.move (Operand.tmp 5), type := 3, pos := "ref.go:136", after := #[{ on := 7, ground := Ground.guard }], guard := some (7, false) }) (v := undef) rfl (by kernel_rfl) (by kernel_rfl) (by kernel_rfl) (fun _ _ _ h => h.elim) (Or.inr ⟨by rfl, rfl⟩) hS1.out ?_
  simp only [Act.put, List.setIfInBounds_toArray, List.set_cons_zero, List.set_cons_succ]
  refine wpAnyH_take (i := 15) (oi := { dst := some 42, op := Op.indexAddr 22 (Operand.tmp 40) (Operand.tmp 41), type := 0, pos := "ref.go:136", after := #[{ on := 13, ground := Ground.data }, { on := 14, ground := Ground.data }, { on := 7, ground := Ground.guard }], guard := some (7, false) }) (v := undef) rfl (by kernel_rfl) (by kernel_rfl) (by kernel_rfl) (fun _ _ _ h => h.elim) (Or.inr ⟨by rfl, rfl⟩) hS1.out ?_
  simp only [Act.put, List.setIfInBounds_toArray, List.set_cons_zero, List.set_cons_succ]
  refine wpAnyH_take (i := 16) (oi := { dst := some 43, op := Op.fieldAddr 36 (Operand.tmp 42) 0, type := 0, pos := "ref.go:136", after := #[{ on := 15, ground := Ground.data }, { on := 7, ground := Ground.guard }], guard := some (7, false) }) (v := undef) rfl (by kernel_rfl) (by kernel_rfl) (by kernel_rfl) (fun _ _ _ h => h.elim) (Or.inr ⟨by rfl, rfl⟩) hS1.out ?_
  simp only [Act.put, List.setIfInBounds_toArray, List.set_cons_zero, List.set_cons_succ]
  refine wpAnyH_take (i := 17) (oi := { dst := some 44, op := Op.load 34 (Operand.tmp 43), type := 34, pos := "ref.go:136", after := #[{ on := 16, ground := Ground.data }, { on := 7, ground := Ground.guard }], guard := some (7, false) }) (v := undef) rfl (by kernel_rfl) (by kernel_rfl) (by kernel_rfl) (fun _ _ _ h => h.elim) (Or.inr ⟨by rfl, rfl⟩) hS1.out ?_
  simp only [Act.put, List.setIfInBounds_toArray, List.set_cons_zero, List.set_cons_succ]
  refine wpAnyH_take (i := 18) (oi := { dst := some 45, op := Op.call { callee := Callee.value (Operand.func 28), args := #[Operand.tmp 39, Operand.tmp 44], argTypes := #[34, 34] }, type := 4, pos := "ref.go:136", after := #[{ on := 12, ground := Ground.data }, { on := 17, ground := Ground.data }, { on := 7, ground := Ground.chain }, { on := 7, ground := Ground.guard }], guard := some (7, false) }) (v := undef) rfl (by kernel_rfl) (by kernel_rfl) (by kernel_rfl) (fun _ _ _ h => h.elim) (Or.inr ⟨by rfl, rfl⟩) hS1.out ?_
  simp only [Act.put, List.setIfInBounds_toArray, List.set_cons_zero, List.set_cons_succ]
  refine wpAnyH_take (i := 19) (oi := { dst := some 46, op := Op.pick (Operand.tmp 34) (Operand.const (Value.bool true)) (Operand.tmp 45), type := 4, pos := "ref.go:136", after := #[{ on := 7, ground := Ground.data }, { on := 18, ground := Ground.data }, { on := 4, ground := Ground.guard }], guard := some (4, true) }) (v := .bool true) rfl (by kernel_rfl) (by kernel_rfl) (by kernel_rfl) (fun _ _ _ h => h.elim) (Or.inl ⟨by rfl, ?y19⟩) hS1.out ?_
  case y19 =>
    intro V hV
    go_simp
  simp only [Act.put, List.setIfInBounds_toArray, List.set_cons_zero, List.set_cons_succ]
  refine wpAnyH_take (i := 20) (oi := { dst := some 47, op := Op.pick (Operand.tmp 31) (Operand.tmp 46) (Operand.const (Value.bool false)), type := 4, pos := "ref.go:136", after := #[{ on := 4, ground := Ground.data }, { on := 19, ground := Ground.data }], guard := none }) (v := .bool true) rfl (by kernel_rfl) (by kernel_rfl) (by kernel_rfl) (fun _ _ _ h => h.elim) (Or.inl ⟨by rfl, ?y20⟩) hS1.out ?_
  case y20 =>
    intro V hV
    go_simp
  simp only [Act.put, List.setIfInBounds_toArray, List.set_cons_zero, List.set_cons_succ]
  refine wpAnyH_done (by kernel_rfl) ?_ _
  exact hQ V1 hS1.out
set_option maxRecDepth 100000 in
set_option maxHeartbeats 2000000 in
theorem pick_region_t {Q : Exit → Act → World → Prop} {x1 x2 x3 x7 x8 x9 x10 x11 x12 x13 x14 x15 x16 x17 x18 x19 x20 x21 x22 x23 x24 x25 x26 x27 x28 x29 x30 x31 x32 x33 x34 x35 x36 x37 x38 x39 x40 x41 x42 x43 x44 x45 x46 x47 x48 x49 x50 x51 x52 x53 x54 x55 x56 x57 x58 x59 : Value} {ds : List Deferred} {A : World} {g off n c i j m d : Nat} {p : Option Addr} {x y : Hs} {r : Bool}
    (hx : x.length = 32) (hy : y.length = 32) (q1 : (i : Int) < (n : Int)) (q2 : (j : Int) < (n : Int)) (HK : Hid (A.rangeAt g (off + i * 33) (U x) ∧ A.rangeAt g (off + j * 33) (U y) ∧ g < A.heap.size)) (hr : Op.bytesLess x y = r) (h27 : Hid (∀ V, Below A.heap.size A V → Calls Try.prog 27 #[.slice (some ⟨g, off, none⟩) n c, .slice p m d, .int .i64 (i : Int)] V fun e V1 => e = .returned (.bool true) ∧ Hid (Below V.heap.size V V1)))
    (hQ : ∀ (V : World), Below A.heap.size A V → Q .normal { tmps := #[.slice (some ⟨g, off, none⟩) n c, x1, x2, x3, .slice p m d, .int .i64 (j : Int), .int .i64 (i : Int), x7, x8, x9, x10, x11, x12, x13, x14, x15, x16, x17, x18, x19, x20, x21, x22, x23, x24, x25, x26, .slice (some ⟨g, off, none⟩) n c, .slice p m d, .int .i64 (i : Int), .bool true, .bool true, .int .i64 (j : Int), .bool false, .bool false, .slice (some ⟨g, off, none⟩) n c, .int .i64 (i : Int), .pointer (some ⟨g, off + i * 33, none⟩), .pointer (some ⟨g, off + i * 33, none⟩), .agg (U x).toArray, .slice (some ⟨g, off, none⟩) n c, .int .i64 (j : Int), .pointer (some ⟨g, off + j * 33, none⟩), .pointer (some ⟨g, off + j * 33, none⟩), .agg (U y).toArray, .bool r, .bool r, .bool r, x48, x49, x50, x51, x52, x53, x54, x55, x56, x57, x58, x59], defers := ds } V) :
    (Code.region 13 #[{ dst := some 27, op := Op.move (Operand.tmp 0), type := 22, pos := "ref.go:136", after := #[], guard := none }, { dst := some 28, op := Op.move (Operand.tmp 4), type := 26, pos := "ref.go:136", after := #[], guard := none }, { dst := some 29, op := Op.move (Operand.tmp 6), type := 3, pos := "ref.go:136", after := #[], guard := none }, { dst := some 30, op := Op.call { callee := Callee.value (Operand.func 27), args := #[Operand.tmp 27, Operand.tmp 28, Operand.tmp 29], argTypes := #[22, 26, 3] }, type := 4, pos := "ref.go:136", after := #[{ on := 0, ground := Ground.data }, { on := 1, ground := Ground.data }, { on := 2, ground := Ground.data }], guard := none }, { dst := some 31, op := Op.move (Operand.tmp 30), type := 4, pos := "ref.go:136", after := #[{ on := 3, ground := Ground.data }, { on := 3, ground := Ground.chain }], guard := none }, { dst := some 32, op := Op.move (Operand.tmp 5), type := 3, pos := "ref.go:136", after := #[{ on := 4, ground := Ground.guard }], guard := some (4, true) }, { dst := some 33, op := Op.binOp BinOp.lss 3 (Operand.tmp 32) (Operand.const (Value.int IntKind.i64 0)) 3, type := 4, pos := "ref.go:136", after := #[{ on := 5, ground := Ground.data }, { on := 4, ground := Ground.guard }], guard := some (4, true) }, { dst := some 34, op := Op.move (Operand.tmp 33), type := 4, pos := "ref.go:136", after := #[{ on := 6, ground := Ground.data }, { on := 4, ground := Ground.chain }, { on := 4, ground := Ground.guard }], guard := some (4, true) }, { dst := some 35, op := Op.move (Operand.tmp 0), type := 22, pos := "ref.go:136", after := #[{ on := 7, ground := Ground.guard }], guard := some (7, false) }, { dst := some 36, op := Op.move (Operand.tmp 6), type := 3, pos := "ref.go:136", after := #[{ on := 7, ground := Ground.guard }], guard := some (7, false) }, { dst := some 37, op := Op.indexAddr 22 (Operand.tmp 35) (Operand.tmp 36), type := 0, pos := "ref.go:136", after := #[{ on := 8, ground := Ground.data }, { on := 9, ground := Ground.data }, { on := 7, ground := Ground.guard }], guard := some (7, false) }, { dst := some 38, op := Op.fieldAddr 36 (Operand.tmp 37) 0, type := 0, pos := "ref.go:136", after := #[{ on := 10, ground := Ground.data }, { on := 7, ground := Ground.guard }], guard := some (7, false) }, { dst := some 39, op := Op.load 34 (Operand.tmp 38), type := 34, pos := "ref.go:136", after := #[{ on := 11, ground := Ground.data }, { on := 7, ground := Ground.guard }], guard := some (7, false) }, { dst := some 40, op := Op.move (Operand.tmp 0), type := 22, pos := "ref.go:136", after := #[{ on := 7, ground := Ground.guard }], guard := some (7, false) }, { dst := some 41, op := Op.move (Operand.tmp 5), type := 3, pos := "ref.go:136", after := #[{ on := 7, ground := Ground.guard }], guard := some (7, false) }, { dst := some 42, op := Op.indexAddr 22 (Operand.tmp 40) (Operand.tmp 41), type := 0, pos := "ref.go:136", after := #[{ on := 13, ground := Ground.data }, { on := 14, ground := Ground.data }, { on := 7, ground := Ground.guard }], guard := some (7, false) }, { dst := some 43, op := Op.fieldAddr 36 (Operand.tmp 42) 0, type := 0, pos := "ref.go:136", after := #[{ on := 15, ground := Ground.data }, { on := 7, ground := Ground.guard }], guard := some (7, false) }, { dst := some 44, op := Op.load 34 (Operand.tmp 43), type := 34, pos := "ref.go:136", after := #[{ on := 16, ground := Ground.data }, { on := 7, ground := Ground.guard }], guard := some (7, false) }, { dst := some 45, op := Op.call { callee := Callee.value (Operand.func 28), args := #[Operand.tmp 39, Operand.tmp 44], argTypes := #[34, 34] }, type := 4, pos := "ref.go:136", after := #[{ on := 12, ground := Ground.data }, { on := 17, ground := Ground.data }, { on := 7, ground := Ground.chain }, { on := 7, ground := Ground.guard }], guard := some (7, false) }, { dst := some 46, op := Op.pick (Operand.tmp 34) (Operand.const (Value.bool true)) (Operand.tmp 45), type := 4, pos := "ref.go:136", after := #[{ on := 7, ground := Ground.data }, { on := 18, ground := Ground.data }, { on := 4, ground := Ground.guard }], guard := some (4, true) }, { dst := some 47, op := Op.pick (Operand.tmp 31) (Operand.tmp 46) (Operand.const (Value.bool false)), type := 4, pos := "ref.go:136", after := #[{ on := 4, ground := Ground.data }, { on := 19, ground := Ground.data }], guard := none }] true).wp Try.prog Q { tmps := #[.slice (some ⟨g, off, none⟩) n c, x1, x2, x3, .slice p m d, .int .i64 (j : Int), .int .i64 (i : Int), x7, x8, x9, x10, x11, x12, x13, x14, x15, x16, x17, x18, x19, x20, x21, x22, x23, x24, x25, x26, x27, x28, x29, x30, x31, x32, x33, x34, x35, x36, x37, x38, x39, x40, x41, x42, x43, x44, x45, x46, x47, x48, x49, x50, x51, x52, x53, x54, x55, x56, x57, x58, x59], defers := ds } A := by
  refine Code.wp_mono (Q := fun x a' w' => match x with | .normal => Q .normal a' w' | _ => False) (by intro x a' w' h; cases x <;> first | exact h | exact h.elim) ?_
  refine wp_region_held (S := fun V => Below A.heap.size A V) (by kernel_rfl) ?_
  have hS0 : Hid (Below A.heap.size A A.drew) := below_drew A
  change wpAnyH Try.prog .any _ _ (fun V => Below A.heap.size A V) 21 (Array.replicate 21 false) _ A.drew
  refine wpAnyH_take (i := 0) (oi := { dst := some 27, op := Op.move (Operand.tmp 0), type := 22, pos := "ref.go:136", after := #[], guard := none }) (v := .slice (some ⟨g, off, none⟩) n c) rfl (by kernel_rfl) (by kernel_rfl) (by kernel_rfl) (fun _ _ _ h => h.elim) (Or.inl ⟨by rfl, ?y0⟩) hS0.out ?_
  case y0 =>
    intro V hV
    go_simp
  simp only [Act.put, List.setIfInBounds_toArray, List.set_cons_zero, List.set_cons_succ]
  refine wpAnyH_take (i := 1) (oi := { dst := some 28, op := Op.move (Operand.tmp 4), type := 26, pos := "ref.go:136", after := #[], guard := none }) (v := .slice p m d) rfl (by kernel_rfl) (by kernel_rfl) (by kernel_rfl) (fun _ _ _ h => h.elim) (Or.inl ⟨by rfl, ?y1⟩) hS0.out ?_
  case y1 =>
    intro V hV
    go_simp
  simp only [Act.put, List.setIfInBounds_toArray, List.set_cons_zero, List.set_cons_succ]
  refine wpAnyH_take (i := 2) (oi := { dst := some 29, op := Op.move (Operand.tmp 6), type := 3, pos := "ref.go:136", after := #[], guard := none }) (v := .int .i64 (i : Int)) rfl (by kernel_rfl) (by kernel_rfl) (by kernel_rfl) (fun _ _ _ h => h.elim) (Or.inl ⟨by rfl, ?y2⟩) hS0.out ?_
  case y2 =>
    intro V hV
    go_simp
  simp only [Act.put, List.setIfInBounds_toArray, List.set_cons_zero, List.set_cons_succ]
  refine wpAnyH_ready (rs := [3]) (by kernel_rfl) (by simp) (AllReadyH.cons (i := 3) (o := { dst := some 30, op := Op.call { callee := Callee.value (Operand.func 27), args := #[Operand.tmp 27, Operand.tmp 28, Operand.tmp 29], argTypes := #[22, 26, 3] }, type := 4, pos := "ref.go:136", after := #[{ on := 0, ground := Ground.data }, { on := 1, ground := Ground.data }, { on := 2, ground := Ground.data }], guard := none }) rfl ?_ AllReadyH.nil)
  intro K1 hK1
  rw [if_pos (by rfl)]
  have HC1 := h27.out A.drew hS0.out
  go_wp2_with fail
  refine HC1.mono ?_
  rintro e V1 ⟨rfl, HB1⟩
  dsimp only
  clear HC1
  have hS1 : Hid (Below A.heap.size A V1) := hS0.out.trans (HB1.out.mono hS0.out.size)
  refine hK1.out _ _ hS1.out ?_
  clear hK1
  intro _
  try simp only [Act.put, List.setIfInBounds_toArray, List.set_cons_zero, List.set_cons_succ]
  refine wpAnyH_take (i := 4) (oi := { dst := some 31, op := Op.move (Operand.tmp 30), type := 4, pos := "ref.go:136", after := #[{ on := 3, ground := Ground.data }, { on := 3, ground := Ground.chain }], guard := none }) (v := .bool true) rfl (by kernel_rfl) (by kernel_rfl) (by kernel_rfl) (fun _ _ _ h => h.elim) (Or.inl ⟨by rfl, ?y4⟩) hS1.out ?_
  case y4 =>
    intro V hV
    go_simp
  simp only [Act.put, List.setIfInBounds_toArray, List.set_cons_zero, List.set_cons_succ]
  refine wpAnyH_take (i := 5) (oi := { dst := some 32, op := Op.move (Operand.tmp 5), type := 3, pos := "ref.go:136", after := #[{ on := 4, ground := Ground.guard }], guard := some (4, true) }) (v := .int .i64 (j : Int)) rfl (by kernel_rfl) (by kernel_rfl) (by kernel_rfl) (fun _ _ _ h => h.elim) (Or.inl ⟨by rfl, ?y5⟩) hS1.out ?_
  case y5 =>
    intro V hV
    go_simp
  simp only [Act.put, List.setIfInBounds_toArray, List.set_cons_zero, List.set_cons_succ]
  refine wpAnyH_take (i := 6) (oi := { dst := some 33, op := Op.binOp BinOp.lss 3 (Operand.tmp 32) (Operand.const (Value.int IntKind.i64 0)) 3, type := 4, pos := "ref.go:136", after := #[{ on := 5, ground := Ground.data }, { on := 4, ground := Ground.guard }], guard := some (4, true) }) (v := .bool false) rfl (by kernel_rfl) (by kernel_rfl) (by kernel_rfl) (fun _ _ _ h => h.elim) (Or.inl ⟨by rfl, ?y6⟩) hS1.out ?_
  case y6 =>
    intro V hV
    go_simp
  simp only [Act.put, List.setIfInBounds_toArray, List.set_cons_zero, List.set_cons_succ]
  refine wpAnyH_take (i := 7) (oi := { dst := some 34, op := Op.move (Operand.tmp 33), type := 4, pos := "ref.go:136", after := #[{ on := 6, ground := Ground.data }, { on := 4, ground := Ground.chain }, { on := 4, ground := Ground.guard }], guard := some (4, true) }) (v := .bool false) rfl (by kernel_rfl) (by kernel_rfl) (by kernel_rfl) (fun _ _ _ h => h.elim) (Or.inl ⟨by rfl, ?y7⟩) hS1.out ?_
  case y7 =>
    intro V hV
    go_simp
  simp only [Act.put, List.setIfInBounds_toArray, List.set_cons_zero, List.set_cons_succ]
  refine wpAnyH_take (i := 8) (oi := { dst := some 35, op := Op.move (Operand.tmp 0), type := 22, pos := "ref.go:136", after := #[{ on := 7, ground := Ground.guard }], guard := some (7, false) }) (v := .slice (some ⟨g, off, none⟩) n c) rfl (by kernel_rfl) (by kernel_rfl) (by kernel_rfl) (fun _ _ _ h => h.elim) (Or.inl ⟨by rfl, ?y8⟩) hS1.out ?_
  case y8 =>
    intro V hV
    go_simp
  simp only [Act.put, List.setIfInBounds_toArray, List.set_cons_zero, List.set_cons_succ]
  refine wpAnyH_take (i := 9) (oi := { dst := some 36, op := Op.move (Operand.tmp 6), type := 3, pos := "ref.go:136", after := #[{ on := 7, ground := Ground.guard }], guard := some (7, false) }) (v := .int .i64 (i : Int)) rfl (by kernel_rfl) (by kernel_rfl) (by kernel_rfl) (fun _ _ _ h => h.elim) (Or.inl ⟨by rfl, ?y9⟩) hS1.out ?_
  case y9 =>
    intro V hV
    go_simp
  simp only [Act.put, List.setIfInBounds_toArray, List.set_cons_zero, List.set_cons_succ]
  refine wpAnyH_take (i := 10) (oi := { dst := some 37, op := Op.indexAddr 22 (Operand.tmp 35) (Operand.tmp 36), type := 0, pos := "ref.go:136", after := #[{ on := 8, ground := Ground.data }, { on := 9, ground := Ground.data }, { on := 7, ground := Ground.guard }], guard := some (7, false) }) (v := .pointer (some ⟨g, off + i * 33, none⟩)) rfl (by kernel_rfl) (by kernel_rfl) (by kernel_rfl) (fun _ _ _ h => h.elim) (Or.inl ⟨by rfl, ?y10⟩) hS1.out ?_
  case y10 =>
    intro V hV
    go_simp
  simp only [Act.put, List.setIfInBounds_toArray, List.set_cons_zero, List.set_cons_succ]
  refine wpAnyH_take (i := 11) (oi := { dst := some 38, op := Op.fieldAddr 36 (Operand.tmp 37) 0, type := 0, pos := "ref.go:136", after := #[{ on := 10, ground := Ground.data }, { on := 7, ground := Ground.guard }], guard := some (7, false) }) (v := .pointer (some ⟨g, off + i * 33, none⟩)) rfl (by kernel_rfl) (by kernel_rfl) (by kernel_rfl) (fun _ _ _ h => h.elim) (Or.inl ⟨by rfl, ?y11⟩) hS1.out ?_
  case y11 =>
    intro V hV
    go_simp
  simp only [Act.put, List.setIfInBounds_toArray, List.set_cons_zero, List.set_cons_succ]
  refine wpAnyH_take (i := 12) (oi := { dst := some 39, op := Op.load 34 (Operand.tmp 38), type := 34, pos := "ref.go:136", after := #[{ on := 11, ground := Ground.data }, { on := 7, ground := Ground.guard }], guard := some (7, false) }) (v := .agg (U x).toArray) rfl (by kernel_rfl) (by kernel_rfl) (by kernel_rfl) (fun _ _ _ h => h.elim) (yieldsIf_load_mid (by rfl) _ _ rfl _ _ rfl (U x) _ (fun V hV => rangeAt_same (HK.out.1) ((show Below A.heap.size A V from hV).block _ (HK.out.2.2))) Try.underlying34 rfl (info34 x hx)) hS1.out ?_
  simp only [Act.put, List.setIfInBounds_toArray, List.set_cons_zero, List.set_cons_succ]
  refine wpAnyH_take (i := 13) (oi := { dst := some 40, op := Op.move (Operand.tmp 0), type := 22, pos := "ref.go:136", after := #[{ on := 7, ground := Ground.guard }], guard := some (7, false) }) (v := .slice (some ⟨g, off, none⟩) n c) rfl (by kernel_rfl) (by kernel_rfl) (by kernel_rfl) (fun _ _ _ h => h.elim) (Or.inl ⟨by rfl, ?y13⟩) hS1.out ?_
  case y13 =>
    intro V hV
    go_simp
  simp only [Act.put, List.setIfInBounds_toArray, List.set_cons_zero, List.set_cons_succ]
  refine wpAnyH_take (i := 14) (oi := { dst := some 41, op := Op.move (Operand.tmp 5), type := 3, pos := "ref.go:136", after := #[{ on := 7, ground := Ground.guard }], guard := some (7, false) }) (v := .int .i64 (j : Int)) rfl (by kernel_rfl) (by kernel_rfl) (by kernel_rfl) (fun _ _ _ h => h.elim) (Or.inl ⟨by rfl, ?y14⟩) hS1.out ?_
  case y14 =>
    intro V hV
    go_simp
  simp only [Act.put, List.setIfInBounds_toArray, List.set_cons_zero, List.set_cons_succ]
  refine wpAnyH_take (i := 15) (oi := { dst := some 42, op := Op.indexAddr 22 (Operand.tmp 40) (Operand.tmp 41), type := 0, pos := "ref.go:136", after := #[{ on := 13, ground := Ground.data }, { on := 14, ground := Ground.data }, { on := 7, ground := Ground.guard }], guard := some (7, false) }) (v := .pointer (some ⟨g, off + j * 33, none⟩)) rfl (by kernel_rfl) (by kernel_rfl) (by kernel_rfl) (fun _ _ _ h => h.elim) (Or.inl ⟨by rfl, ?y15⟩) hS1.out ?_
  case y15 =>
    intro V hV
    go_simp
  simp only [Act.put, List.setIfInBounds_toArray, List.set_cons_zero, List.set_cons_succ]
  refine wpAnyH_take (i := 16) (oi := { dst := some 43, op := Op.fieldAddr 36 (Operand.tmp 42) 0, type := 0, pos := "ref.go:136", after := #[{ on := 15, ground := Ground.data }, { on := 7, ground := Ground.guard }], guard := some (7, false) }) (v := .pointer (some ⟨g, off + j * 33, none⟩)) rfl (by kernel_rfl) (by kernel_rfl) (by kernel_rfl) (fun _ _ _ h => h.elim) (Or.inl ⟨by rfl, ?y16⟩) hS1.out ?_
  case y16 =>
    intro V hV
    go_simp
  simp only [Act.put, List.setIfInBounds_toArray, List.set_cons_zero, List.set_cons_succ]
  refine wpAnyH_take (i := 17) (oi := { dst := some 44, op := Op.load 34 (Operand.tmp 43), type := 34, pos := "ref.go:136", after := #[{ on := 16, ground := Ground.data }, { on := 7, ground := Ground.guard }], guard := some (7, false) }) (v := .agg (U y).toArray) rfl (by kernel_rfl) (by kernel_rfl) (by kernel_rfl) (fun _ _ _ h => h.elim) (yieldsIf_load_mid (by rfl) _ _ rfl _ _ rfl (U y) _ (fun V hV => rangeAt_same (HK.out.2.1) ((show Below A.heap.size A V from hV).block _ (HK.out.2.2))) Try.underlying34 rfl (info34 y hy)) hS1.out ?_
  simp only [Act.put, List.setIfInBounds_toArray, List.set_cons_zero, List.set_cons_succ]
  refine wpAnyH_ready (rs := [18]) (by kernel_rfl) (by simp) (AllReadyH.cons (i := 18) (o := { dst := some 45, op := Op.call { callee := Callee.value (Operand.func 28), args := #[Operand.tmp 39, Operand.tmp 44], argTypes := #[34, 34] }, type := 4, pos := "ref.go:136", after := #[{ on := 12, ground := Ground.data }, { on := 17, ground := Ground.data }, { on := 7, ground := Ground.chain }, { on := 7, ground := Ground.guard }], guard := some (7, false) }) rfl ?_ AllReadyH.nil)
  intro K1 hK1
  rw [if_pos (by rfl)]
  have HC2 := rbelow_is V1 x y hx hy
  go_wp2_with fail
  refine HC2.mono ?_
  rintro e V2 ⟨rfl, HB2⟩
  dsimp only
  clear HC2
  have hS2 : Hid (Below A.heap.size A V2) := hS1.out.trans (HB2.out.mono hS1.out.size)
  rw [hr]
  refine hK1.out _ _ hS2.out ?_
  clear hK1
  intro _
  try simp only [Act.put, List.setIfInBounds_toArray, List.set_cons_zero, List.set_cons_succ]
  refine wpAnyH_take (i := 19) (oi := { dst := some 46, op := Op.pick (Operand.tmp 34) (Operand.const (Value.bool true)) (Operand.tmp 45), type := 4, pos := "ref.go:136", after := #[{ on := 7, ground := Ground.data }, { on := 18, ground := Ground.data }, { on := 4, ground := Ground.guard }], guard := some (4, true) }) (v := .bool r) rfl (by kernel_rfl) (by kernel_rfl) (by kernel_rfl) (fun _ _ _ h => h.elim) (Or.inl ⟨by rfl, ?y19⟩) hS2.out ?_
  case y19 =>
    intro V hV
    go_simp
  simp only [Act.put, List.setIfInBounds_toArray, List.set_cons_zero, List.set_cons_succ]
  refine wpAnyH_take (i := 20) (oi := { dst := some 47, op := Op.pick (Operand.tmp 31) (Operand.tmp 46) (Operand.const (Value.bool false)), type := 4, pos := "ref.go:136", after := #[{ on := 4, ground := Ground.data }, { on := 19, ground := Ground.data }], guard := none }) (v := .bool r) rfl (by kernel_rfl) (by kernel_rfl) (by kernel_rfl) (fun _ _ _ h => h.elim) (Or.inl ⟨by rfl, ?y20⟩) hS2.out ?_
  case y20 =>
    intro V hV
    go_simp
  simp only [Act.put, List.setIfInBounds_toArray, List.set_cons_zero, List.set_cons_succ]
  refine wpAnyH_done (by kernel_rfl) ?_ _
  exact hQ V2 hS2.out
end Go.Proofs.Ytijkpkcopjkhkaa.Oct

/- Layer 12 (deps): DepsBehind: its drawn statement, whatever its order. -/
namespace Go.Proofs.Ytijkpkcopjkhkaa.Oct
open Go.RowKit
set_option linter.unusedSimpArgs false

set_option maxRecDepth 100000 in
set_option maxHeartbeats 2000000 in
theorem behind_region_t {Q : Exit → Act → World → Prop} {x1 x2 x3 x4 x6 x7 x8 x9 x10 x11 x12 x13 x14 x15 x16 x17 x18 x19 x20 x21 x22 x23 x24 x25 x26 x27 x28 x29 x30 x31 x32 x33 x34 x35 x36 x37 x38 x39 x40 x41 x42 x43 x44 x45 x46 x47 x48 x49 x50 x51 x52 x53 x54 x55 x56 x57 x58 x59 x60 x61 x62 x63 x64 x65 x66 x67 x68 x69 x70 x71 x72 x73 x74 x75 x76 x77 x78 x79 x80 x81 x82 x83 x84 x85 x86 x87 x88 x89 x90 x91 x92 x93 x94 x95 x96 x97 x98 x99 x100 x101 x102 x103 x104 x105 : Value} {ds : List Deferred} {A : World} {a : Option Addr} {len cap : Nat}
    
    (hQ : Q .normal { tmps := #[.slice a len cap, x1, x2, x3, x4, .bool true, x6, x7, x8, x9, x10, x11, x12, x13, x14, x15, x16, x17, x18, x19, x20, x21, x22, x23, x24, x25, x26, x27, x28, x29, x30, x31, x32, x33, x34, x35, .bool true, .bool true, undef, undef, undef, undef, undef, undef, undef, undef, .bool true, x47, x48, x49, x50, x51, x52, x53, x54, x55, x56, x57, x58, x59, x60, x61, x62, x63, x64, x65, x66, x67, x68, x69, x70, x71, x72, x73, x74, x75, x76, x77, x78, x79, x80, x81, x82, x83, x84, x85, x86, x87, x88, x89, x90, x91, x92, x93, x94, x95, x96, x97, x98, x99, x100, x101, x102, x103, x104, x105], defers := ds } A.drew) :
    (Code.region 9 #[{ dst := some 36, op := Op.move (Operand.tmp 5), type := 4, pos := "law.go:76", after := #[], guard := none }, { dst := some 37, op := Op.move (Operand.tmp 36), type := 4, pos := "law.go:76", after := #[{ on := 0, ground := Ground.data }], guard := none }, { dst := some 38, op := Op.move (Operand.tmp 0), type := 22, pos := "law.go:76", after := #[{ on := 1, ground := Ground.guard }], guard := some (1, false) }, { dst := some 39, op := Op.fieldAddr 36 (Operand.tmp 7) 0, type := 0, pos := "law.go:76", after := #[{ on := 1, ground := Ground.guard }], guard := some (1, false) }, { dst := some 40, op := Op.load 34 (Operand.tmp 39), type := 34, pos := "law.go:76", after := #[{ on := 3, ground := Ground.data }, { on := 1, ground := Ground.guard }], guard := some (1, false) }, { dst := some 41, op := Op.call { callee := Callee.value (Operand.func 14), args := #[Operand.tmp 38, Operand.tmp 40], argTypes := #[22, 34] }, type := 26, pos := "law.go:76", after := #[{ on := 2, ground := Ground.data }, { on := 4, ground := Ground.data }, { on := 1, ground := Ground.chain }, { on := 1, ground := Ground.guard }], guard := some (1, false) }, { dst := some 42, op := Op.fieldAddr 36 (Operand.tmp 7) 0, type := 0, pos := "law.go:76", after := #[{ on := 1, ground := Ground.guard }], guard := some (1, false) }, { dst := some 43, op := Op.load 34 (Operand.tmp 42), type := 34, pos := "law.go:76", after := #[{ on := 6, ground := Ground.data }, { on := 1, ground := Ground.guard }], guard := some (1, false) }, { dst := some 44, op := Op.call { callee := Callee.value (Operand.func 22), args := #[Operand.tmp 41, Operand.tmp 43], argTypes := #[26, 34] }, type := 3, pos := "law.go:76", after := #[{ on := 5, ground := Ground.data }, { on := 7, ground := Ground.data }, { on := 5, ground := Ground.chain }, { on := 1, ground := Ground.guard }], guard := some (1, false) }, { dst := some 45, op := Op.binOp BinOp.geq 3 (Operand.tmp 44) (Operand.const (Value.int IntKind.i64 0)) 3, type := 4, pos := "law.go:76", after := #[{ on := 8, ground := Ground.data }, { on := 1, ground := Ground.guard }], guard := some (1, false) }, { dst := some 46, op := Op.pick (Operand.tmp 37) (Operand.const (Value.bool true)) (Operand.tmp 45), type := 4, pos := "law.go:76", after := #[{ on := 1, ground := Ground.data }, { on := 9, ground := Ground.data }], guard := none }, { dst := some 5, op := Op.assign (Operand.tmp 46), type := 4, pos := "law.go:76", after := #[{ on := 10, ground := Ground.data }, { on := 8, ground := Ground.chain }, { on := 0, ground := Ground.phase }, { on := 1, ground := Ground.phase }, { on := 2, ground := Ground.phase }, { on := 3, ground := Ground.phase }, { on := 4, ground := Ground.phase }, { on := 5, ground := Ground.phase }, { on := 6, ground := Ground.phase }, { on := 7, ground := Ground.phase }, { on := 8, ground := Ground.phase }, { on := 9, ground := Ground.phase }, { on := 10, ground := Ground.phase }], guard := none }] true).wp Try.prog Q { tmps := #[.slice a len cap, x1, x2, x3, x4, .bool true, x6, x7, x8, x9, x10, x11, x12, x13, x14, x15, x16, x17, x18, x19, x20, x21, x22, x23, x24, x25, x26, x27, x28, x29, x30, x31, x32, x33, x34, x35, x36, x37, x38, x39, x40, x41, x42, x43, x44, x45, x46, x47, x48, x49, x50, x51, x52, x53, x54, x55, x56, x57, x58, x59, x60, x61, x62, x63, x64, x65, x66, x67, x68, x69, x70, x71, x72, x73, x74, x75, x76, x77, x78, x79, x80, x81, x82, x83, x84, x85, x86, x87, x88, x89, x90, x91, x92, x93, x94, x95, x96, x97, x98, x99, x100, x101, x102, x103, x104, x105], defers := ds } A := by
  refine Code.wp_mono (Q := fun x a' w' => match x with | .normal => Q .normal a' w' | _ => False) (by intro x a' w' h; cases x <;> first | exact h | exact h.elim) ?_
  refine wp_region_held (S := fun V => Below A.heap.size A V) (by kernel_rfl) ?_
  have hS0 : Hid (Below A.heap.size A A.drew) := below_drew A
  change wpAnyH Try.prog .any _ _ (fun V => Below A.heap.size A V) 12 (Array.replicate 12 false) _ A.drew
  refine wpAnyH_take (i := 0) (oi := { dst := some 36, op := Op.move (Operand.tmp 5), type := 4, pos := "law.go:76", after := #[], guard := none }) (v := .bool true) rfl (by kernel_rfl) (by kernel_rfl) (by kernel_rfl) (fun _ _ _ h => h.elim) (Or.inl ⟨by rfl, ?y0⟩) hS0.out ?_
  case y0 =>
    intro V hV
    go_simp
  simp only [Act.put, List.setIfInBounds_toArray, List.set_cons_zero, List.set_cons_succ]
  refine wpAnyH_take (i := 1) (oi := { dst := some 37, op := Op.move (Operand.tmp 36), type := 4, pos := "law.go:76", after := #[{ on := 0, ground := Ground.data }], guard := none }) (v := .bool true) rfl (by kernel_rfl) (by kernel_rfl) (by kernel_rfl) (fun _ _ _ h => h.elim) (Or.inl ⟨by rfl, ?y1⟩) hS0.out ?_
  case y1 =>
    intro V hV
    go_simp
  simp only [Act.put, List.setIfInBounds_toArray, List.set_cons_zero, List.set_cons_succ]
  refine wpAnyH_take (i := 2) (oi := { dst := some 38, op := Op.move (Operand.tmp 0), type := 22, pos := "law.go:76", after := #[{ on := 1, ground := Ground.guard }], guard := some (1, false) }) (v := undef) rfl (by kernel_rfl) (by kernel_rfl) (by kernel_rfl) (fun _ _ _ h => h.elim) (Or.inr ⟨by rfl, rfl⟩) hS0.out ?_
  simp only [Act.put, List.setIfInBounds_toArray, List.set_cons_zero, List.set_cons_succ]
  refine wpAnyH_take (i := 3) (oi := { dst := some 39, op := Op.fieldAddr 36 (Operand.tmp 7) 0, type := 0, pos := "law.go:76", after := #[{ on := 1, ground := Ground.guard }], guard := some (1, false) }) (v := undef) rfl (by kernel_rfl) (by kernel_rfl) (by kernel_rfl) (fun _ _ _ h => h.elim) (Or.inr ⟨by rfl, rfl⟩) hS0.out ?_
  simp only [Act.put, List.setIfInBounds_toArray, List.set_cons_zero, List.set_cons_succ]
  refine wpAnyH_take (i := 4) (oi := { dst := some 40, op := Op.load 34 (Operand.tmp 39), type := 34, pos := "law.go:76", after := #[{ on := 3, ground := Ground.data }, { on := 1, ground := Ground.guard }], guard := some (1, false) }) (v := undef) rfl (by kernel_rfl) (by kernel_rfl) (by kernel_rfl) (fun _ _ _ h => h.elim) (Or.inr ⟨by rfl, rfl⟩) hS0.out ?_
  simp only [Act.put, List.setIfInBounds_toArray, List.set_cons_zero, List.set_cons_succ]
  refine wpAnyH_take (i := 5) (oi := { dst := some 41, op := Op.call { callee := Callee.value (Operand.func 14), args := #[Operand.tmp 38, Operand.tmp 40], argTypes := #[22, 34] }, type := 26, pos := "law.go:76", after := #[{ on := 2, ground := Ground.data }, { on := 4, ground := Ground.data }, { on := 1, ground := Ground.chain }, { on := 1, ground := Ground.guard }], guard := some (1, false) }) (v := undef) rfl (by kernel_rfl) (by kernel_rfl) (by kernel_rfl) (fun _ _ _ h => h.elim) (Or.inr ⟨by rfl, rfl⟩) hS0.out ?_
  simp only [Act.put, List.setIfInBounds_toArray, List.set_cons_zero, List.set_cons_succ]
  refine wpAnyH_take (i := 6) (oi := { dst := some 42, op := Op.fieldAddr 36 (Operand.tmp 7) 0, type := 0, pos := "law.go:76", after := #[{ on := 1, ground := Ground.guard }], guard := some (1, false) }) (v := undef) rfl (by kernel_rfl) (by kernel_rfl) (by kernel_rfl) (fun _ _ _ h => h.elim) (Or.inr ⟨by rfl, rfl⟩) hS0.out ?_
  simp only [Act.put, List.setIfInBounds_toArray, List.set_cons_zero, List.set_cons_succ]
  refine wpAnyH_take (i := 7) (oi := { dst := some 43, op := Op.load 34 (Operand.tmp 42), type := 34, pos := "law.go:76", after := #[{ on := 6, ground := Ground.data }, { on := 1, ground := Ground.guard }], guard := some (1, false) }) (v := undef) rfl (by kernel_rfl) (by kernel_rfl) (by kernel_rfl) (fun _ _ _ h => h.elim) (Or.inr ⟨by rfl, rfl⟩) hS0.out ?_
  simp only [Act.put, List.setIfInBounds_toArray, List.set_cons_zero, List.set_cons_succ]
  refine wpAnyH_take (i := 8) (oi := { dst := some 44, op := Op.call { callee := Callee.value (Operand.func 22), args := #[Operand.tmp 41, Operand.tmp 43], argTypes := #[26, 34] }, type := 3, pos := "law.go:76", after := #[{ on := 5, ground := Ground.data }, { on := 7, ground := Ground.data }, { on := 5, ground := Ground.chain }, { on := 1, ground := Ground.guard }], guard := some (1, false) }) (v := undef) rfl (by kernel_rfl) (by kernel_rfl) (by kernel_rfl) (fun _ _ _ h => h.elim) (Or.inr ⟨by rfl, rfl⟩) hS0.out ?_
  simp only [Act.put, List.setIfInBounds_toArray, List.set_cons_zero, List.set_cons_succ]
  refine wpAnyH_take (i := 9) (oi := { dst := some 45, op := Op.binOp BinOp.geq 3 (Operand.tmp 44) (Operand.const (Value.int IntKind.i64 0)) 3, type := 4, pos := "law.go:76", after := #[{ on := 8, ground := Ground.data }, { on := 1, ground := Ground.guard }], guard := some (1, false) }) (v := undef) rfl (by kernel_rfl) (by kernel_rfl) (by kernel_rfl) (fun _ _ _ h => h.elim) (Or.inr ⟨by rfl, rfl⟩) hS0.out ?_
  simp only [Act.put, List.setIfInBounds_toArray, List.set_cons_zero, List.set_cons_succ]
  refine wpAnyH_take (i := 10) (oi := { dst := some 46, op := Op.pick (Operand.tmp 37) (Operand.const (Value.bool true)) (Operand.tmp 45), type := 4, pos := "law.go:76", after := #[{ on := 1, ground := Ground.data }, { on := 9, ground := Ground.data }], guard := none }) (v := .bool true) rfl (by kernel_rfl) (by kernel_rfl) (by kernel_rfl) (fun _ _ _ h => h.elim) (Or.inl ⟨by rfl, ?y10⟩) hS0.out ?_
  case y10 =>
    intro V hV
    go_simp
  simp only [Act.put, List.setIfInBounds_toArray, List.set_cons_zero, List.set_cons_succ]
  refine wpAnyH_take (i := 11) (oi := { dst := some 5, op := Op.assign (Operand.tmp 46), type := 4, pos := "law.go:76", after := #[{ on := 10, ground := Ground.data }, { on := 8, ground := Ground.chain }, { on := 0, ground := Ground.phase }, { on := 1, ground := Ground.phase }, { on := 2, ground := Ground.phase }, { on := 3, ground := Ground.phase }, { on := 4, ground := Ground.phase }, { on := 5, ground := Ground.phase }, { on := 6, ground := Ground.phase }, { on := 7, ground := Ground.phase }, { on := 8, ground := Ground.phase }, { on := 9, ground := Ground.phase }, { on := 10, ground := Ground.phase }], guard := none }) (v := .bool true) rfl (by kernel_rfl) (by kernel_rfl) (by kernel_rfl) (fun _ _ _ h => h.elim) (Or.inl ⟨by rfl, ?y11⟩) hS0.out ?_
  case y11 =>
    intro V hV
    go_simp
  simp only [Act.put, List.setIfInBounds_toArray, List.set_cons_zero, List.set_cons_succ]
  refine wpAnyH_done (by kernel_rfl) ?_ _
  exact hQ
set_option maxRecDepth 100000 in
set_option maxHeartbeats 2000000 in
theorem behind_region_f {Q : Exit → Act → World → Prop} {x1 x2 x3 x4 x6 x8 x9 x10 x11 x12 x13 x14 x15 x16 x17 x18 x19 x20 x21 x22 x23 x24 x25 x26 x27 x28 x29 x30 x31 x32 x33 x34 x35 x36 x37 x38 x39 x40 x41 x42 x43 x44 x45 x46 x47 x48 x49 x50 x51 x52 x53 x54 x55 x56 x57 x58 x59 x60 x61 x62 x63 x64 x65 x66 x67 x68 x69 x70 x71 x72 x73 x74 x75 x76 x77 x78 x79 x80 x81 x82 x83 x84 x85 x86 x87 x88 x89 x90 x91 x92 x93 x94 x95 x96 x97 x98 x99 x100 x101 x102 x103 x104 x105 : Value} {ds : List Deferred} {A : World} {a : Option Addr} {len cap xb : Nat} {x : Hs} {B : Bool}
    (hl : Hid (x.length = 32)) (HK : Hid (A.rangeAt xb 0 (U x) ∧ xb < A.heap.size)) (h14 : Hid (∀ V, Below A.heap.size A V → Calls Try.prog 14 #[.slice a len cap, .agg (U x).toArray] V fun e V1 => ∃ p n c rs, e = .returned (.slice p n c) ∧ Hid (HsR V1 p n rs ∧ n ≤ 100000 ∧ decide (x ∈ rs) = B) ∧ Hid (Below V.heap.size V V1)))
    (hQ : ∀ (p1 : Option Addr) (n1 c1 : Nat) (z1 : Int) (V : World), Below A.heap.size A V → Q .normal { tmps := #[.slice a len cap, x1, x2, x3, x4, .bool B, x6, .pointer (some ⟨xb, 0, none⟩), x8, x9, x10, x11, x12, x13, x14, x15, x16, x17, x18, x19, x20, x21, x22, x23, x24, x25, x26, x27, x28, x29, x30, x31, x32, x33, x34, x35, .bool false, .bool false, .slice a len cap, .pointer (some ⟨xb, 0, none⟩), .agg (U x).toArray, .slice p1 n1 c1, .pointer (some ⟨xb, 0, none⟩), .agg (U x).toArray, .int .i64 z1, .bool B, .bool B, x47, x48, x49, x50, x51, x52, x53, x54, x55, x56, x57, x58, x59, x60, x61, x62, x63, x64, x65, x66, x67, x68, x69, x70, x71, x72, x73, x74, x75, x76, x77, x78, x79, x80, x81, x82, x83, x84, x85, x86, x87, x88, x89, x90, x91, x92, x93, x94, x95, x96, x97, x98, x99, x100, x101, x102, x103, x104, x105], defers := ds } V) :
    (Code.region 9 #[{ dst := some 36, op := Op.move (Operand.tmp 5), type := 4, pos := "law.go:76", after := #[], guard := none }, { dst := some 37, op := Op.move (Operand.tmp 36), type := 4, pos := "law.go:76", after := #[{ on := 0, ground := Ground.data }], guard := none }, { dst := some 38, op := Op.move (Operand.tmp 0), type := 22, pos := "law.go:76", after := #[{ on := 1, ground := Ground.guard }], guard := some (1, false) }, { dst := some 39, op := Op.fieldAddr 36 (Operand.tmp 7) 0, type := 0, pos := "law.go:76", after := #[{ on := 1, ground := Ground.guard }], guard := some (1, false) }, { dst := some 40, op := Op.load 34 (Operand.tmp 39), type := 34, pos := "law.go:76", after := #[{ on := 3, ground := Ground.data }, { on := 1, ground := Ground.guard }], guard := some (1, false) }, { dst := some 41, op := Op.call { callee := Callee.value (Operand.func 14), args := #[Operand.tmp 38, Operand.tmp 40], argTypes := #[22, 34] }, type := 26, pos := "law.go:76", after := #[{ on := 2, ground := Ground.data }, { on := 4, ground := Ground.data }, { on := 1, ground := Ground.chain }, { on := 1, ground := Ground.guard }], guard := some (1, false) }, { dst := some 42, op := Op.fieldAddr 36 (Operand.tmp 7) 0, type := 0, pos := "law.go:76", after := #[{ on := 1, ground := Ground.guard }], guard := some (1, false) }, { dst := some 43, op := Op.load 34 (Operand.tmp 42), type := 34, pos := "law.go:76", after := #[{ on := 6, ground := Ground.data }, { on := 1, ground := Ground.guard }], guard := some (1, false) }, { dst := some 44, op := Op.call { callee := Callee.value (Operand.func 22), args := #[Operand.tmp 41, Operand.tmp 43], argTypes := #[26, 34] }, type := 3, pos := "law.go:76", after := #[{ on := 5, ground := Ground.data }, { on := 7, ground := Ground.data }, { on := 5, ground := Ground.chain }, { on := 1, ground := Ground.guard }], guard := some (1, false) }, { dst := some 45, op := Op.binOp BinOp.geq 3 (Operand.tmp 44) (Operand.const (Value.int IntKind.i64 0)) 3, type := 4, pos := "law.go:76", after := #[{ on := 8, ground := Ground.data }, { on := 1, ground := Ground.guard }], guard := some (1, false) }, { dst := some 46, op := Op.pick (Operand.tmp 37) (Operand.const (Value.bool true)) (Operand.tmp 45), type := 4, pos := "law.go:76", after := #[{ on := 1, ground := Ground.data }, { on := 9, ground := Ground.data }], guard := none }, { dst := some 5, op := Op.assign (Operand.tmp 46), type := 4, pos := "law.go:76", after := #[{ on := 10, ground := Ground.data }, { on := 8, ground := Ground.chain }, { on := 0, ground := Ground.phase }, { on := 1, ground := Ground.phase }, { on := 2, ground := Ground.phase }, { on := 3, ground := Ground.phase }, { on := 4, ground := Ground.phase }, { on := 5, ground := Ground.phase }, { on := 6, ground := Ground.phase }, { on := 7, ground := Ground.phase }, { on := 8, ground := Ground.phase }, { on := 9, ground := Ground.phase }, { on := 10, ground := Ground.phase }], guard := none }] true).wp Try.prog Q { tmps := #[.slice a len cap, x1, x2, x3, x4, .bool false, x6, .pointer (some ⟨xb, 0, none⟩), x8, x9, x10, x11, x12, x13, x14, x15, x16, x17, x18, x19, x20, x21, x22, x23, x24, x25, x26, x27, x28, x29, x30, x31, x32, x33, x34, x35, x36, x37, x38, x39, x40, x41, x42, x43, x44, x45, x46, x47, x48, x49, x50, x51, x52, x53, x54, x55, x56, x57, x58, x59, x60, x61, x62, x63, x64, x65, x66, x67, x68, x69, x70, x71, x72, x73, x74, x75, x76, x77, x78, x79, x80, x81, x82, x83, x84, x85, x86, x87, x88, x89, x90, x91, x92, x93, x94, x95, x96, x97, x98, x99, x100, x101, x102, x103, x104, x105], defers := ds } A := by
  refine Code.wp_mono (Q := fun x a' w' => match x with | .normal => Q .normal a' w' | _ => False) (by intro x a' w' h; cases x <;> first | exact h | exact h.elim) ?_
  refine wp_region_held (S := fun V => Below A.heap.size A V) (by kernel_rfl) ?_
  have hS0 : Hid (Below A.heap.size A A.drew) := below_drew A
  change wpAnyH Try.prog .any _ _ (fun V => Below A.heap.size A V) 12 (Array.replicate 12 false) _ A.drew
  refine wpAnyH_take (i := 0) (oi := { dst := some 36, op := Op.move (Operand.tmp 5), type := 4, pos := "law.go:76", after := #[], guard := none }) (v := .bool false) rfl (by kernel_rfl) (by kernel_rfl) (by kernel_rfl) (fun _ _ _ h => h.elim) (Or.inl ⟨by rfl, ?y0⟩) hS0.out ?_
  case y0 =>
    intro V hV
    go_simp
  simp only [Act.put, List.setIfInBounds_toArray, List.set_cons_zero, List.set_cons_succ]
  refine wpAnyH_take (i := 1) (oi := { dst := some 37, op := Op.move (Operand.tmp 36), type := 4, pos := "law.go:76", after := #[{ on := 0, ground := Ground.data }], guard := none }) (v := .bool false) rfl (by kernel_rfl) (by kernel_rfl) (by kernel_rfl) (fun _ _ _ h => h.elim) (Or.inl ⟨by rfl, ?y1⟩) hS0.out ?_
  case y1 =>
    intro V hV
    go_simp
  simp only [Act.put, List.setIfInBounds_toArray, List.set_cons_zero, List.set_cons_succ]
  refine wpAnyH_take (i := 2) (oi := { dst := some 38, op := Op.move (Operand.tmp 0), type := 22, pos := "law.go:76", after := #[{ on := 1, ground := Ground.guard }], guard := some (1, false) }) (v := .slice a len cap) rfl (by kernel_rfl) (by kernel_rfl) (by kernel_rfl) (fun _ _ _ h => h.elim) (Or.inl ⟨by rfl, ?y2⟩) hS0.out ?_
  case y2 =>
    intro V hV
    go_simp
  simp only [Act.put, List.setIfInBounds_toArray, List.set_cons_zero, List.set_cons_succ]
  refine wpAnyH_take (i := 3) (oi := { dst := some 39, op := Op.fieldAddr 36 (Operand.tmp 7) 0, type := 0, pos := "law.go:76", after := #[{ on := 1, ground := Ground.guard }], guard := some (1, false) }) (v := .pointer (some ⟨xb, 0, none⟩)) rfl (by kernel_rfl) (by kernel_rfl) (by kernel_rfl) (fun _ _ _ h => h.elim) (Or.inl ⟨by rfl, ?y3⟩) hS0.out ?_
  case y3 =>
    intro V hV
    go_simp
  simp only [Act.put, List.setIfInBounds_toArray, List.set_cons_zero, List.set_cons_succ]
  refine wpAnyH_take (i := 4) (oi := { dst := some 40, op := Op.load 34 (Operand.tmp 39), type := 34, pos := "law.go:76", after := #[{ on := 3, ground := Ground.data }, { on := 1, ground := Ground.guard }], guard := some (1, false) }) (v := .agg (U x).toArray) rfl (by kernel_rfl) (by kernel_rfl) (by kernel_rfl) (fun _ _ _ h => h.elim) (yieldsIf_load_mid (by rfl) _ _ rfl _ _ rfl (U x) _ (fun V hV => rangeAt_same (HK.out.1) ((show Below A.heap.size A V from hV).block _ (HK.out.2))) Try.underlying34 rfl (info34 x hl.out)) hS0.out ?_
  simp only [Act.put, List.setIfInBounds_toArray, List.set_cons_zero, List.set_cons_succ]
  refine wpAnyH_take (i := 6) (oi := { dst := some 42, op := Op.fieldAddr 36 (Operand.tmp 7) 0, type := 0, pos := "law.go:76", after := #[{ on := 1, ground := Ground.guard }], guard := some (1, false) }) (v := .pointer (some ⟨xb, 0, none⟩)) rfl (by kernel_rfl) (by kernel_rfl) (by kernel_rfl) (fun _ _ _ h => h.elim) (Or.inl ⟨by rfl, ?y6⟩) hS0.out ?_
  case y6 =>
    intro V hV
    go_simp
  simp only [Act.put, List.setIfInBounds_toArray, List.set_cons_zero, List.set_cons_succ]
  refine wpAnyH_take (i := 7) (oi := { dst := some 43, op := Op.load 34 (Operand.tmp 42), type := 34, pos := "law.go:76", after := #[{ on := 6, ground := Ground.data }, { on := 1, ground := Ground.guard }], guard := some (1, false) }) (v := .agg (U x).toArray) rfl (by kernel_rfl) (by kernel_rfl) (by kernel_rfl) (fun _ _ _ h => h.elim) (yieldsIf_load_mid (by rfl) _ _ rfl _ _ rfl (U x) _ (fun V hV => rangeAt_same (HK.out.1) ((show Below A.heap.size A V from hV).block _ (HK.out.2))) Try.underlying34 rfl (info34 x hl.out)) hS0.out ?_
  simp only [Act.put, List.setIfInBounds_toArray, List.set_cons_zero, List.set_cons_succ]
  refine wpAnyH_ready (rs := [5]) (by kernel_rfl) (by simp) (AllReadyH.cons (i := 5) (o := { dst := some 41, op := Op.call { callee := Callee.value (Operand.func 14), args := #[Operand.tmp 38, Operand.tmp 40], argTypes := #[22, 34] }, type := 26, pos := "law.go:76", after := #[{ on := 2, ground := Ground.data }, { on := 4, ground := Ground.data }, { on := 1, ground := Ground.chain }, { on := 1, ground := Ground.guard }], guard := some (1, false) }) rfl ?_ AllReadyH.nil)
  intro K1 hK1
  rw [if_pos (by rfl)]
  have HC1 := h14.out A.drew hS0.out
  go_wp2_with fail
  refine HC1.mono ?_
  rintro e V1 ⟨p1, n1, c1, rs1, rfl, H1, HB1⟩
  dsimp only
  clear HC1
  have hS1 : Hid (Below A.heap.size A V1) := hS0.out.trans (HB1.out.mono hS0.out.size)
  refine hK1.out _ _ hS1.out ?_
  clear hK1
  intro _
  try simp only [Act.put, List.setIfInBounds_toArray, List.set_cons_zero, List.set_cons_succ]
  refine wpAnyH_ready (rs := [8]) (by kernel_rfl) (by simp) (AllReadyH.cons (i := 8) (o := { dst := some 44, op := Op.call { callee := Callee.value (Operand.func 22), args := #[Operand.tmp 41, Operand.tmp 43], argTypes := #[26, 34] }, type := 3, pos := "law.go:76", after := #[{ on := 5, ground := Ground.data }, { on := 7, ground := Ground.data }, { on := 5, ground := Ground.chain }, { on := 1, ground := Ground.guard }], guard := some (1, false) }) rfl ?_ AllReadyH.nil)
  intro K1 hK1
  rw [if_pos (by rfl)]
  have HC2 := place_tell V1 p1 n1 c1 rs1 x B H1.out.1 hl.out H1.out.2.1 H1.out.2.2
  go_wp2_with fail
  refine HC2.mono ?_
  rintro e V2 ⟨z1, rfl, HZ1, HB2⟩
  dsimp only
  clear HC2
  have hS2 : Hid (Below A.heap.size A V2) := hS1.out.trans (HB2.out.mono hS1.out.size)
  refine hK1.out _ _ hS2.out ?_
  clear hK1
  intro _
  try simp only [Act.put, List.setIfInBounds_toArray, List.set_cons_zero, List.set_cons_succ]
  refine wpAnyH_take (i := 9) (oi := { dst := some 45, op := Op.binOp BinOp.geq 3 (Operand.tmp 44) (Operand.const (Value.int IntKind.i64 0)) 3, type := 4, pos := "law.go:76", after := #[{ on := 8, ground := Ground.data }, { on := 1, ground := Ground.guard }], guard := some (1, false) }) (v := .bool B) rfl (by kernel_rfl) (by kernel_rfl) (by kernel_rfl) (fun _ _ _ h => h.elim) (Or.inl ⟨by rfl, ?y9⟩) hS2.out ?_
  case y9 =>
    intro V hV
    have q := HZ1.out
    go_simp
  simp only [Act.put, List.setIfInBounds_toArray, List.set_cons_zero, List.set_cons_succ]
  refine wpAnyH_take (i := 10) (oi := { dst := some 46, op := Op.pick (Operand.tmp 37) (Operand.const (Value.bool true)) (Operand.tmp 45), type := 4, pos := "law.go:76", after := #[{ on := 1, ground := Ground.data }, { on := 9, ground := Ground.data }], guard := none }) (v := .bool B) rfl (by kernel_rfl) (by kernel_rfl) (by kernel_rfl) (fun _ _ _ h => h.elim) (Or.inl ⟨by rfl, ?y10⟩) hS2.out ?_
  case y10 =>
    intro V hV
    go_simp
  simp only [Act.put, List.setIfInBounds_toArray, List.set_cons_zero, List.set_cons_succ]
  refine wpAnyH_take (i := 11) (oi := { dst := some 5, op := Op.assign (Operand.tmp 46), type := 4, pos := "law.go:76", after := #[{ on := 10, ground := Ground.data }, { on := 8, ground := Ground.chain }, { on := 0, ground := Ground.phase }, { on := 1, ground := Ground.phase }, { on := 2, ground := Ground.phase }, { on := 3, ground := Ground.phase }, { on := 4, ground := Ground.phase }, { on := 5, ground := Ground.phase }, { on := 6, ground := Ground.phase }, { on := 7, ground := Ground.phase }, { on := 8, ground := Ground.phase }, { on := 9, ground := Ground.phase }, { on := 10, ground := Ground.phase }], guard := none }) (v := .bool B) rfl (by kernel_rfl) (by kernel_rfl) (by kernel_rfl) (fun _ _ _ h => h.elim) (Or.inl ⟨by rfl, ?y11⟩) hS2.out ?_
  case y11 =>
    intro V hV
    go_simp
  simp only [Act.put, List.setIfInBounds_toArray, List.set_cons_zero, List.set_cons_succ]
  refine wpAnyH_done (by kernel_rfl) ?_ _
  exact hQ p1 n1 c1 z1 V2 hS2.out
end Go.Proofs.Ytijkpkcopjkhkaa.Oct

/- Layer 12 (deps): DepsBehind. -/
namespace Go.Proofs.Ytijkpkcopjkhkaa.Oct
open Go.RowKit

theorem placeOf_le {d : Hs} {hs : List Hs} {k : Nat} (h : hs[k]? = some d) : 0 ≤ placeOf d hs ∧ placeOf d hs ≤ k := by
  refine ⟨(placeOf_mem d hs).2 (List.mem_of_getElem? h), ?_⟩
  unfold placeOf
  cases he : hs.findIdx? (· == d) with
  | none => simp
  | some i =>
    show (i : Int) ≤ k
    rw [List.findIdx?_eq_some_iff_getElem] at he
    obtain ⟨_, _, h3⟩ := he
    obtain ⟨hk, hx⟩ := List.getElem?_eq_some_iff.1 h
    by_cases hik : k < i
    · have := h3 k hik
      simp [hx] at this
    · omega
theorem placeOf_get {h : Hs} {hs : List Hs} (hm : h ∈ hs) : ∃ i : Nat, hs[i]? = some h ∧ placeOf h hs = i := by
  unfold placeOf
  cases he : hs.findIdx? (· == h) with
  | none =>
    rw [List.findIdx?_eq_none_iff] at he
    have := he h hm
    simp at this
  | some i =>
    rw [List.findIdx?_eq_some_iff_getElem] at he
    obtain ⟨h1, h2, _⟩ := he
    exact ⟨i, by rw [List.getElem?_eq_getElem h1]; simpa using h2, rfl⟩
/-- in the order each stands behind all that it needs -/
theorem behind_fact {l : List It} {hs : List Hs} (ho : OrderS l hs) {h d : Hs} (hm : h ∈ hs) (hr : Reach (getS (downS l)) h d) : 0 ≤ placeOf d hs ∧ placeOf d hs < placeOf h hs := by
  obtain ⟨i, hi, he⟩ := placeOf_get hm
  obtain ⟨k, hk, hkd⟩ := order_behind ho hi hr
  have := placeOf_le hkd
  rw [he]
  omega
/-- an order of all has all -/
theorem order_whole {l : List It} {hs : List Hs} (ho : OrderS l hs) (hl : l.length ≤ hs.length) : hs.length = l.length ∧ ∀ x ∈ l, x.name ∈ hs := by
  have h1 := nodup_le hs (l.map (·.name)) (order_nodup ho) (fun x hx => order_mem ho hx)
  rw [List.length_map] at h1
  refine ⟨by omega, fun x hx => ?_⟩
  refine Classical.byContradiction fun hc => ?_
  have h2 := nodup_le (x.name :: hs) (l.map (·.name)) (List.nodup_cons.2 ⟨hc, order_nodup ho⟩) (fun y hy => by
    rcases List.mem_cons.1 hy with rfl | hy
    · exact List.mem_map.2 ⟨x, hx, rfl⟩
    · exact order_mem ho hy)
  simp at h2
  omega
set_option maxRecDepth 100000 in
set_option maxHeartbeats 4000000 in
theorem behind_law (l : List It) (a : Option Addr) (len cap : Nat) (w : World) (hi : Its w a len l) (hc : len ≤ cap ∧ cap ≤ maxLen) :
    Calls Try.prog 5 #[.slice a len cap] w (Law w) := by
  have HI : Hid (Its w a len l ∧ l.length = len) := ⟨hi, hi.1⟩
  have H8 : Hid (Calls Try.prog 8 #[.slice a len cap] w (LightP w len l)) := light_is w a len cap l hi hc
  have q5 : (len : Int) ≤ 9223372036854775807 := by have h1 := hc.1; have h2 := hc.2; unfold maxLen at h2; omega
  clear hi hc
  go_enter Try.func5, Try.ntmps5
  go_wp2_with fail
  refine H8.out.mono ?_
  rintro e w' ⟨b, rfl, HL, rfl⟩
  cases b with
  | false =>
    go_wp2_with fail
    refine (lives_is w).mono ?_
    rintro e w1 ⟨rfl, HB1⟩
    go_wp2
    go_ret
    exact ⟨rfl, HB1.out⟩
  | true =>
    by_cases h60 : 60 < len
    · have q1 : (60 : Int) < (len : Int) := by omega
      clear h60
      go_wp2_with fail
      refine (lives_is w).mono ?_
      rintro e w1 ⟨rfl, HB1⟩
      go_wp2
      go_ret
      exact ⟨rfl, HB1.out⟩
    · have q1 : ¬ (60 : Int) < (len : Int) := by omega
      have HM : Hid (len ≤ 60 ∧ many l ≤ 90000) := ⟨by omega, by have := (HL.out rfl).2; omega⟩
      obtain ⟨Z, hZl, hZ⟩ := zero36
      obtain ⟨Y, hYl, hY⟩ := zero34
      have HZ : Hid (Z.length = 33 ∧ Y.length = 32) := ⟨hZl, hYl⟩
      clear h60 hZl hYl
      go_wp2_with fail
      refine (order_is w a len cap l HI.out.1 (by have := HM.out; omega) HM.out.2).mono ?_
      rintro e w2 ⟨p, n, c, er, hs, rfl, HR, HO, HB2⟩
      by_cases her : er = 0
      · subst her
        have HOS : Hid (OrderS l hs ∧ (∀ x ∈ l, x.name ∈ hs) ∧ ClosedL len l ∧ n = len) := by
          rcases HO.out with ⟨_, _, h⟩ | ⟨_, _, _, h⟩ | ⟨_, _, _, _, h⟩ | ⟨_, _, _, _, _, h⟩ | ⟨h1, h2, h3, h4, h5, _⟩
          · cases h
          · cases h
          · cases h
          · cases h
          · have := order_whole h4 h5
            exact ⟨h4, this.2, ⟨by have := HM.out; omega, h2, h3⟩, by rw [← HR.out.1.1, this.1, HI.out.2]⟩
        obtain rfl := HOS.out.2.2.2
        have H20 : Hid (Calls Try.prog 20 #[.slice a n cap] w2 fun e V => e = .returned (.bool true) ∧ Hid (Below w2.heap.size w2 V)) := by
          refine (closed_is w2 a n cap l (HI.out.1.below HB2.out) (by have := HM.out; omega) HM.out.2).mono ?_
          rintro e V ⟨b, rfl, h1, h2⟩
          exact ⟨by rw [h1.out.2 HOS.out.2.2.1], h2⟩
        go_wp2_with fail
        refine H20.out.mono ?_
        rintro e w3 ⟨rfl, HB3⟩
        go_wp2
        go_loopw [74] (fun u wr => ∃ i : Nat, u = .int .i64 (i : Int) ∧ Hid (i ≤ n ∧ Below w2.heap.size w2 wr)) (fun u _ => n - (intOf u).toNat)
        case atStart => exact ⟨0, rfl, ⟨Nat.zero_le _, HB3.out⟩⟩
        case round =>
          obtain ⟨i, rfl, HJ⟩ := hrel
          by_cases hin : i < n
          · obtain ⟨x, hx⟩ : ∃ x, l[i]? = some x := ⟨_, List.getElem?_eq_getElem (by rw [HI.out.2]; exact hin)⟩
            obtain ⟨b, off, rfl, hb, hel⟩ := HI.out.1.2 (by omega)
            have HBW : Hid (Below w.heap.size w wr) := bt HB2.out HJ.out.2
            have HX : Hid (i < n ∧ l[i]? = some x ∧ x.name.length = 32) := ⟨hin, hx, (hel i x hx).1⟩
            have HRA : Hid (wr.rangeAt b (off + i * 33) x.cells) := rangeAt_same (hel i x hx).2.1 (HBW.out.block b hb)
            have q2 : (i : Int) < (n : Int) := by omega
            obtain ⟨z, hz⟩ : ∃ z, placeOf x.name hs = z := ⟨_, rfl⟩
            have HZP : Hid (placeOf x.name hs = z) := hz
            have q3 : ¬ z < 0 := by
              have := (placeOf_mem x.name hs).2 (HOS.out.2.1 x (List.mem_of_getElem? hx))
              omega
            clear hel hx hin hz hb
            go_wp2_with (first
              | (with_reducible change wpList _ _ _ ({ dst := some 77, op := _, type := _, pos := _, after := _, guard := _ } :: _) _ _
                 refine wpList_load_mid rfl 36 (.tmp 76) rfl b (off + i * 33) rfl x.cells _ HRA.out Try.underlying36 rfl (info36 x HX.out.2.2) ?_)
              | (with_reducible change wpList _ _ _ ({ dst := none, op := Op.store 36 _ _, type := _, pos := _, after := _, guard := _ } :: _) _ _
                 refine wpList_store_fresh rfl 36 (.tmp 9) (.tmp 77) rfl Z x.cells 36 rfl rfl (by rw [x.cells_length HX.out.2.2, HZ.out.1]) (info36 x HX.out.2.2) (cells_one x) ?_)
              | (with_reducible change wpList _ _ _ ({ dst := some 80, op := _, type := _, pos := _, after := _, guard := _ } :: _) _ _
                 refine wpList_load_mid rfl 34 (.tmp 79) rfl wr.heap.size 0 rfl (U x.name) _ (cells_name wr x) Try.underlying34 rfl (info34 x.name HX.out.2.2) ?_)
              | fail)
            obtain ⟨V, hV⟩ : ∃ V, wr.alloc (.cells x.cells.toArray 36) = V := ⟨_, rfl⟩
            obtain ⟨xb, hxb⟩ : ∃ xb, wr.heap.size = xb := ⟨_, rfl⟩
            have HV : Hid (Below w2.heap.size w2 V ∧ V.rangeAt xb 0 (U x.name) ∧ xb < V.heap.size) := by
              rw [← hV, ← hxb]
              exact ⟨bt HJ.out.2 ((Below.refl _ wr).alloc (Nat.le_refl _) _), cells_name wr x, by simp⟩
            rw [hV, hxb]
            clear hV hxb HRA
            refine (place_is V p n c hs x.name (HR.out.1.below HV.out.1) HX.out.2.2 HR.out.2).mono ?_
            rintro e V1 ⟨rfl, HB4⟩
            rw [HZP.out]
            have HV1 : Hid (Below w2.heap.size w2 V1 ∧ V1.rangeAt xb 0 (U x.name)) := ⟨bt HV.out.1 HB4.out, rangeAt_same HV.out.2.1 (HB4.out.block _ HV.out.2.2)⟩
            go_wp2_with (first
              | (with_reducible change wpList _ _ _ ({ dst := some 86, op := _, type := _, pos := _, after := _, guard := _ } :: _) _ _
                 refine wpList_load_mid rfl 34 (.tmp 85) rfl xb 0 rfl (U x.name) _ HV1.out.2 Try.underlying34 rfl (info34 x.name HX.out.2.2) ?_)
              | fail)
            refine (needs_is V1 _ n cap l x.name (HI.out.1.below (bt HB2.out HV1.out.1)) HX.out.2.2 (by have := HM.out.1; omega) HM.out.2).mono ?_
            rintro e V2 ⟨p2, n2, c2, rs, rfl, H2, HB5⟩
            have HV2 : Hid (Below w2.heap.size w2 V2) := bt HV1.out.1 HB5.out
            have q6 : (n2 : Int) ≤ 100000 := by have := H2.out.2.1; omega
            clear HV HV1 HB4 HB5
            obtain ⟨W1, hW1⟩ : ∃ W1, W1 = wr := ⟨_, rfl⟩
            subst hW1
            go_wp2
            go_loopw [89] (fun u wr => ∃ j : Nat, u = .int .i64 (j : Int) ∧ Hid (j ≤ n2 ∧ Below V2.heap.size V2 wr)) (fun u _ => n2 - (intOf u).toNat)
            case atStart => exact ⟨0, rfl, ⟨Nat.zero_le _, Below.refl _ _⟩⟩
            case round =>
              obtain ⟨j, rfl, HK⟩ := hrel
              by_cases hj : j < n2
              · obtain ⟨d, hd⟩ : ∃ d, rs[j]? = some d := ⟨_, List.getElem?_eq_getElem (by rw [H2.out.1.1]; exact hj)⟩
                obtain ⟨g2, off2, hp2, hg2, hel2⟩ := H2.out.1.2.2 (by omega)
                have HD : Hid (j < n2 ∧ d.length = 32 ∧ wr.rangeAt g2 (off2 + j * 32) (U d)) := ⟨hj, H2.out.1.2.1 d (List.mem_of_getElem? hd), rangeAt_same (hel2 j d hd) (HK.out.2.block g2 hg2)⟩
                obtain ⟨y, hy⟩ : ∃ y, placeOf d hs = y := ⟨_, rfl⟩
                have HY : Hid (placeOf d hs = y) := hy
                have hbf := behind_fact HOS.out.1 (HOS.out.2.1 x (List.mem_of_getElem? HX.out.2.1)) ((H2.out.2.2.2 d).1 (List.mem_of_getElem? hd)).2
                rw [hy, HZP.out] at hbf
                have q7 : ¬ y < 0 := by omega
                have q8 : ¬ z ≤ y := by omega
                have q9 : (j : Int) < (n2 : Int) := by omega
                clear hj hd hel2 hy hbf
                rw [hp2]
                go_wp2_with (first
                  | (with_reducible change wpList _ _ _ ({ dst := some 92, op := _, type := _, pos := _, after := _, guard := _ } :: _) _ _
                     refine wpList_load_mid rfl 34 (.tmp 91) rfl g2 (off2 + j * 32) rfl (U d) _ HD.out.2.2 Try.underlying34 rfl (info34 d HD.out.2.1) ?_)
                  | (with_reducible change wpList _ _ _ ({ dst := none, op := Op.store 34 _ _, type := _, pos := _, after := _, guard := _ } :: _) _ _
                     refine wpList_store_fresh rfl 34 (.tmp 12) (.tmp 92) rfl Y (U d) 34 rfl rfl (by rw [U_length, HD.out.2.1, HZ.out.2]) (info34 d HD.out.2.1) (U_one d) ?_)
                  | (with_reducible change wpList _ _ _ ({ dst := some 94, op := _, type := _, pos := _, after := _, guard := _ } :: _) _ _
                     refine wpList_load_mid rfl 34 (.tmp 12) rfl wr.heap.size 0 rfl (U d) _ (new34 wr d) Try.underlying34 rfl (info34 d HD.out.2.1) ?_)
                  | fail)
                have HN : Hid (Below V2.heap.size V2 (wr.alloc (.cells (U d).toArray 34))) := bt HK.out.2 ((Below.refl _ wr).alloc (Nat.le_refl _) _)
                refine (place_is _ p n c hs d (HR.out.1.below (bt HV2.out HN.out)) HD.out.2.1 HR.out.2).mono ?_
                rintro e V3 ⟨rfl, HB6⟩
                rw [HY.out]
                go_wp2
                go_roundw
                case rel => exact ⟨j + 1, by simp, ⟨HD.out.1, bt HN.out HB6.out⟩⟩
                case measure => have := HD.out.1; simp [intOf]; omega
              · have q7 : ¬ (j : Int) < (n2 : Int) := by omega
                go_wp2
                refine ⟨⟨i + 1, by simp, ⟨HX.out.1, bt HV2.out HK.out.2⟩⟩, ?_⟩
                have := HX.out.1; simp [intOf]; omega
          · have q2 : ¬ (i : Int) < (n : Int) := by omega
            clear hin
            go_wp2_with fail
            refine (lives_is wr).mono ?_
            rintro e w4 ⟨rfl, HB4⟩
            go_wp2
            go_ret
            exact ⟨rfl, bt (bt HB2.out HJ.out.2) HB4.out⟩
      · have qe : ((er : Int) != 0) = true := by simpa using her
        have HOE : Hid (hs = [] ∧ n = 0 ∧ (¬ ClosedL len l ∨ ∃ x ∈ l, Reach (getS (downS l)) x.name x.name)) := by
          have hc : hs = [] ∧ (¬ ClosedL len l ∨ ∃ x ∈ l, Reach (getS (downS l)) x.name x.name) := by
            rcases HO.out with ⟨h1, _, _⟩ | ⟨_, h2, h3, _⟩ | ⟨_, _, ⟨x, h3⟩, h4, _⟩ | ⟨_, h2, h3, ⟨ks, h4, h5⟩, h6, _⟩ | ⟨_, _, _, _, _, h⟩
            · have := HM.out.1; have := HI.out.2; omega
            · exact ⟨h3, .inl fun h => h2 h.2.1⟩
            · exact ⟨h4, .inl fun h => h.2.2 x h3⟩
            · exact ⟨h6, .inr (short_round h4 h2 h3 h5)⟩
            · exact absurd h her
          exact ⟨hc.1, by rw [← HR.out.1.1, hc.1]; rfl, hc.2⟩
        obtain rfl := HOE.out.2.1
        clear her
        go_wp2
        go_loopw [32, 5] (fun u v wr => ∃ (i : Nat) (r : Bool), u = .int .i64 (i : Int) ∧ v = .bool r ∧ Hid (i ≤ len ∧ Below w.heap.size w wr ∧ (r = true ↔ ∃ x ∈ l.take i, Reach (getS (downS l)) x.name x.name))) (fun u _ _ => len - (intOf u).toNat)
        case atStart => exact ⟨0, false, rfl, rfl, ⟨Nat.zero_le _, HB2.out, by simp⟩⟩
        case round =>
          obtain ⟨i, r, rfl, rfl, HJ⟩ := hrel
          by_cases hin : i < len
          · obtain ⟨x, hx⟩ : ∃ x, l[i]? = some x := ⟨_, List.getElem?_eq_getElem (by rw [HI.out.2]; exact hin)⟩
            obtain ⟨b, off, rfl, hb, hel⟩ := HI.out.1.2 (by omega)
            have HX : Hid (i < len ∧ l[i]? = some x ∧ x.name.length = 32) := ⟨hin, hx, (hel i x hx).1⟩
            have HRA : Hid (wr.rangeAt b (off + i * 33) x.cells) := rangeAt_same (hel i x hx).2.1 (HJ.out.2.1.block b hb)
            have q2 : (i : Int) < (len : Int) := by omega
            have HT : Hid ((∃ y ∈ l.take (i + 1), Reach (getS (downS l)) y.name y.name) ↔ (∃ y ∈ l.take i, Reach (getS (downS l)) y.name y.name) ∨ Reach (getS (downS l)) x.name x.name) := by
              show _ ↔ _
              rw [List.take_add_one, hx]
              simp only [Option.toList, List.mem_append, List.mem_singleton]
              constructor
              · rintro ⟨y, hy | rfl, h⟩
                · exact .inl ⟨y, hy, h⟩
                · exact .inr h
              · rintro (⟨y, hy, h⟩ | h)
                · exact ⟨y, .inl hy, h⟩
                · exact ⟨x, .inr rfl, h⟩
            clear hel hx hin hb
            go_wp2_with (first
              | (with_reducible change wpList _ _ _ ({ dst := some 35, op := _, type := _, pos := _, after := _, guard := _ } :: _) _ _
                 refine wpList_load_mid rfl 36 (.tmp 34) rfl b (off + i * 33) rfl x.cells _ HRA.out Try.underlying36 rfl (info36 x HX.out.2.2) ?_)
              | (with_reducible change wpList _ _ _ ({ dst := none, op := Op.store 36 _ _, type := _, pos := _, after := _, guard := _ } :: _) _ _
                 refine wpList_store_fresh rfl 36 (.tmp 7) (.tmp 35) rfl Z x.cells 36 rfl rfl (by rw [x.cells_length HX.out.2.2, HZ.out.1]) (info36 x HX.out.2.2) (cells_one x) ?_)
              | fail)
            obtain ⟨V, hV⟩ : ∃ V, wr.alloc (.cells x.cells.toArray 36) = V := ⟨_, rfl⟩
            obtain ⟨xb, hxb⟩ : ∃ xb, wr.heap.size = xb := ⟨_, rfl⟩
            have HV : Hid (Below w.heap.size w V ∧ V.rangeAt xb 0 (U x.name) ∧ xb < V.heap.size) := by
              rw [← hV, ← hxb]
              exact ⟨bt HJ.out.2.1 ((Below.refl _ wr).alloc (Nat.le_refl _) _), cells_name wr x, by simp⟩
            rw [hV, hxb]
            clear hV hxb HRA
            cases r with
            | true =>
              refine behind_region_t ?_
              go_wp2
              go_roundw
              case rel => exact ⟨i + 1, true, by simp, rfl, ⟨HX.out.1, HV.out.1.drew, ⟨fun _ => HT.out.2 (.inl (HJ.out.2.2.1 rfl)), fun _ => rfl⟩⟩⟩
              case measure => have := HX.out.1; simp [intOf]; omega
            | false =>
              obtain ⟨B, hB⟩ : ∃ B : Bool, B = true ↔ Reach (getS (downS l)) x.name x.name := by
                classical
                exact ⟨decide (Reach (getS (downS l)) x.name x.name), decide_eq_true_iff⟩
              have HBB : Hid (B = true ↔ Reach (getS (downS l)) x.name x.name) := hB
              clear hB
              refine behind_region_f (x := x.name) (B := B) HX.out.2.2 ⟨HV.out.2.1, HV.out.2.2⟩ (fun V1 h1 => needs_tell V1 _ len cap l x.name x.name (HI.out.1.below (bt HV.out.1 h1)) HX.out.2.2 (by have := HM.out.1; omega) HM.out.2 B HBB.out) ?_
              intro p1 n1 c1 z1 V2 hV2
              have HV2 : Hid (Below w.heap.size w V2) := bt HV.out.1 hV2
              clear hV2
              go_wp2
              go_roundw
              case rel => exact ⟨i + 1, B, by simp, rfl, ⟨HX.out.1, HV2.out, ⟨fun h => HT.out.2 (.inr (HBB.out.1 h)), fun h => by
                rcases HT.out.1 h with h | h
                · have := HJ.out.2.2.2 h; cases this
                · exact HBB.out.2 h⟩⟩⟩
              case measure => have := HX.out.1; simp [intOf]; omega
          · have q2 : ¬ (i : Int) < (len : Int) := by omega
            have HRR : Hid (r = true ↔ ∃ x ∈ l, Reach (getS (downS l)) x.name x.name) := by
              have := HJ.out.2.2
              rw [List.take_of_length_le (by have := HI.out.2; omega)] at this
              exact this
            clear hin
            go_wp2_with fail
            refine (closed_is wr a len cap l (HI.out.1.below HJ.out.2.1) (by have := HM.out; omega) HM.out.2).mono ?_
            rintro e w4 ⟨cl, rfl, G1, HB4⟩
            have HB5 : Hid (Below w.heap.size w w4) := bt HJ.out.2.1 HB4.out
            cases cl with
            | false =>
              go_wp2_with fail
              refine (lives_is w4).mono ?_
              rintro e w5 ⟨rfl, HB6⟩
              go_wp2
              go_ret
              exact ⟨rfl, bt HB5.out HB6.out⟩
            | true =>
              obtain rfl : r = true := by
                rcases HOE.out.2.2 with h | h
                · exact absurd (G1.out.1 rfl) h
                · exact HRR.out.2 h
              go_wp2_with fail
              refine (lives_is w4).mono ?_
              rintro e w5 ⟨rfl, HB6⟩
              go_wp2
              go_ret
              exact ⟨rfl, bt HB5.out HB6.out⟩
end Go.Proofs.Ytijkpkcopjkhkaa.Oct

/- Layer 12 (deps): the reference: Order. -/
namespace Go.Proofs.Ytijkpkcopjkhkaa.Oct
open Go.RowKit

theorem name_uni {l : List It} (hn : (l.map (·.name)).Nodup) {x y : It} (hx : x ∈ l) (hy : y ∈ l) (e : x.name = y.name) : x = y := by
  obtain ⟨i, hi, rfl⟩ := List.mem_iff_getElem.1 hx
  obtain ⟨j, hj, rfl⟩ := List.mem_iff_getElem.1 hy
  have := List.pairwise_iff_getElem.1 (List.nodup_iff_pairwise_ne.1 hn)
  by_cases hij : i = j
  · subst hij; rfl
  · exfalso
    rcases Nat.lt_or_gt_of_ne hij with h | h
    · have := this i j (by simpa using hi) (by simpa using hj) h
      simp at this
      exact this e
    · have := this j i (by simpa using hj) (by simpa using hi) h
      simp at this
      exact this e.symm
theorem rdy_item {l : List It} (hn : (l.map (·.name)).Nodup) {x : It} (hx : x ∈ l) (told : List Hs) : Rdy l told x.name ↔ RdyI told x := by
  constructor
  · rintro ⟨_, h2, h3⟩
    exact ⟨h2, h3 x hx rfl⟩
  · rintro ⟨h2, h3⟩
    refine ⟨List.mem_map.2 ⟨x, hx, rfl⟩, h2, fun y hy e => ?_⟩
    rw [name_uni hn hy hx e]
    exact h3
theorem rdy_some {l : List It} {told : List Hs} {h : Hs} (hr : Rdy l told h) : ∃ x ∈ l, x.name = h ∧ RdyI told x := by
  obtain ⟨h1, h2, h3⟩ := hr
  obtain ⟨x, hx, rfl⟩ := List.mem_map.1 h1
  exact ⟨x, hx, rfl, h2, h3 x hx rfl⟩
/-- the least of the first i that may come next, or none -/
def BestI (l : List It) (told : List Hs) (i : Nat) (best : Int) : Prop :=
  (best = -1 ∧ ∀ k x, k < i → l[k]? = some x → ¬ RdyI told x) ∨
  ∃ (j : Nat) (y : It), best = (j : Int) ∧ j < i ∧ l[j]? = some y ∧ RdyI told y ∧ ∀ k x, k < i → l[k]? = some x → RdyI told x → y.name = x.name ∨ LtH y.name x.name
theorem BestI.skip {l : List It} {told : List Hs} {i : Nat} {best : Int} {x : It} (h : BestI l told i best) (hx : l[i]? = some x) (hn : ¬ RdyI told x) : BestI l told (i + 1) best := by
  rcases h with ⟨h1, h2⟩ | ⟨j, y, h1, h2, h3, h4, h5⟩
  · refine .inl ⟨h1, fun k z hk hz => ?_⟩
    by_cases e : k = i
    · subst e; rw [hx] at hz; cases hz; exact hn
    · exact h2 k z (by omega) hz
  · refine .inr ⟨j, y, h1, by omega, h3, h4, fun k z hk hz hr => ?_⟩
    by_cases e : k = i
    · subst e; rw [hx] at hz; cases hz; exact absurd hr hn
    · exact h5 k z (by omega) hz hr
theorem BestI.first {l : List It} {told : List Hs} {i : Nat} {x : It} (h : ∀ k x, k < i → l[k]? = some x → ¬ RdyI told x) (hx : l[i]? = some x) (hr : RdyI told x) : BestI l told (i + 1) (i : Int) := by
  refine .inr ⟨i, x, rfl, by omega, hx, hr, fun k z hk hz hrz => ?_⟩
  by_cases e : k = i
  · subst e; rw [hx] at hz; cases hz; exact .inl rfl
  · exact absurd hrz (h k z (by omega) hz)
theorem BestI.keep {l : List It} {told : List Hs} {i j : Nat} {x y : It} (hj : j < i) (hy : l[j]? = some y) (hry : RdyI told y) (h : ∀ k x, k < i → l[k]? = some x → RdyI told x → y.name = x.name ∨ LtH y.name x.name) (hx : l[i]? = some x) (hl : ¬ LtH x.name y.name) : BestI l told (i + 1) (j : Int) := by
  refine .inr ⟨j, y, rfl, by omega, hy, hry, fun k z hk hz hrz => ?_⟩
  by_cases e : k = i
  · subst e; rw [hx] at hz; cases hz
    rcases LtH.tri y.name x.name with h1 | h1 | h1
    · exact .inr h1
    · exact .inl h1
    · exact absurd h1 hl
  · exact h k z (by omega) hz hrz
theorem BestI.less {l : List It} {told : List Hs} {i : Nat} {x y : It} (h : ∀ k x, k < i → l[k]? = some x → RdyI told x → y.name = x.name ∨ LtH y.name x.name) (hx : l[i]? = some x) (hr : RdyI told x) (hl : LtH x.name y.name) : BestI l told (i + 1) (i : Int) := by
  refine .inr ⟨i, x, rfl, by omega, hx, hr, fun k z hk hz hrz => ?_⟩
  by_cases e : k = i
  · subst e; rw [hx] at hz; cases hz; exact .inl rfl
  · rcases h k z (by omega) hz hrz with h1 | h1
    · rw [← h1]; exact .inr hl
    · exact .inr (hl.tr h1)
def OrdPre (l : List It) (hs : List Hs) : Prop := ∀ (i : Nat) (h : Hs), hs[i]? = some h → Rdy l (hs.take i) h ∧ ∀ h', Rdy l (hs.take i) h' → h = h' ∨ LtH h h'
theorem OrdPre.add {l : List It} {hs : List Hs} (hn : (l.map (·.name)).Nodup) (h : OrdPre l hs) {y : It} (hy : y ∈ l) (hr : RdyI hs y) (hb : ∀ x ∈ l, RdyI hs x → y.name = x.name ∨ LtH y.name x.name) : OrdPre l (hs ++ [y.name]) := by
  intro i e he
  by_cases hi : i < hs.length
  · rw [List.getElem?_append_left hi] at he
    rw [List.take_append_of_le_length (by omega)]
    exact h i e he
  · have hi2 : i = hs.length := by
      have := (List.getElem?_eq_some_iff.1 he).1
      simp at this
      omega
    subst hi2
    simp at he
    subst he
    rw [List.take_left]
    refine ⟨(rdy_item hn hy hs).2 hr, fun h' hr' => ?_⟩
    obtain ⟨x, hx, rfl, hrx⟩ := rdy_some hr'
    exact hb x hx hrx
theorem OrdPre.nodup {l : List It} {hs : List Hs} (h : OrdPre l hs) : hs.Nodup := by
  rw [List.nodup_iff_pairwise_ne, List.pairwise_iff_getElem]
  intro i j hi hj hij e
  have h1 := (h j hs[j] (List.getElem?_eq_getElem hj)).1.2.1
  exact h1 (by rw [← e]; exact List.mem_take_iff_getElem.2 ⟨i, by omega, rfl⟩)
theorem OrdPre.mem {l : List It} {hs : List Hs} (h : OrdPre l hs) {x : Hs} (hx : x ∈ hs) : x ∈ l.map (·.name) := by
  obtain ⟨i, hi⟩ := List.getElem?_of_mem hx
  exact (h i x hi).1.1
theorem OrdPre.len {l : List It} {hs : List Hs} (h : OrdPre l hs) : hs.length ≤ l.length := by
  have := nodup_le hs (l.map (·.name)) h.nodup (fun x hx => h.mem hx)
  simpa using this
/-- all were told: none may come next -/
theorem OrdPre.whole {l : List It} {hs : List Hs} (h : OrdPre l hs) (hl : l.length ≤ hs.length) : OrderS l hs := by
  refine ⟨h, fun x hr => ?_⟩
  have h2 := nodup_le (x :: hs) (l.map (·.name)) (List.nodup_cons.2 ⟨hr.2.1, h.nodup⟩) (fun y hy => by
    rcases List.mem_cons.1 hy with rfl | hy
    · exact hr.1
    · exact h.mem hy)
  simp at h2
  omega

theorem ready_tell (w : World) (a : Option Addr) (len cap : Nat) (l : List It) (p : Option Addr) (m c : Nat) (told : List Hs) (i : Nat) (x : It) (hi : Its w a len l) (hn : len ≤ 100000) (hm : many l ≤ 90000) (ht : HsR w p m told) (hml : m ≤ 100000) (hx : l[i]? = some x) (B : Bool) (hB : B = true ↔ RdyI told x) :
    Calls Try.prog 27 #[.slice a len cap, .slice p m c, .int .i64 (i : Int)] w fun e w' => e = .returned (.bool B) ∧ Hid (Below w.heap.size w w') := by
  refine (ready_is w a len cap l p m c told i x hi hn hm ht hml hx).mono ?_
  rintro e w' ⟨b, rfl, h1, h2⟩
  refine ⟨?_, h2⟩
  rw [show b = B by rw [Bool.eq_iff_iff, h1.out, hB]]

set_option maxRecDepth 100000 in
set_option maxHeartbeats 4000000 in
theorem rorder_is (w : World) (a : Option Addr) (len cap : Nat) (l : List It) (hi : Its w a len l) (hc : len ≤ cap) (hn : len ≤ 100000) (hm : many l ≤ 90000) :
    Calls Try.prog 12 #[.slice a len cap] w (OrderP w l) := by
  have HA : Hid (Its w a len l ∧ len ≤ 100000 ∧ many l ≤ 90000 ∧ l.length = len ∧ len ≤ cap) := ⟨hi, hn, hm, hi.1, hc⟩
  have q5 : (len : Int) ≤ 100000 := by omega
  clear hi hn hm hc
  by_cases h256 : 256 < len
  · have q1 : (256 : Int) < (len : Int) := by omega
    have HN : Hid (256 < len) := h256
    clear h256
    go_enter Try.func12, Try.ntmps12
    go_wp2
    go_ret2
    exact OrderP.nil (.inl ⟨by rw [HA.out.2.2.2.1]; exact HN.out, rfl, rfl⟩) (Below.refl _ _)
  · have q1 : ¬ (256 : Int) < (len : Int) := by omega
    have HN : Hid (l.length ≤ 256) := by show _ ≤ _; have := HA.out.2.2.2.1; omega
    clear h256
    go_enter Try.func12, Try.ntmps12
    go_wp2_with fail
    refine (twice_is w a len cap l HA.out.1 HA.out.2.2.2.2 HA.out.2.1).mono ?_
    rintro e w1 ⟨b, rfl, H1, HB1⟩
    cases b with
    | true =>
      go_wp2
      go_ret2
      exact OrderP.nil (.inr (.inl ⟨HN.out, (fun h => by have := H1.out.2 h; cases this), rfl, rfl⟩)) HB1.out
    | false =>
      have HND : Hid ((l.map (·.name)).Nodup) := H1.out.1 rfl
      go_wp2_with fail
      refine (rmissing_is w1 a len cap l (HA.out.1.below HB1.out) HA.out.2.1 HA.out.2.2.1).mono ?_
      rintro e w2 ⟨a2, n2, c2, rs, rfl, H2, HB2⟩
      have HB3 : Hid (Below w.heap.size w w2) := bt HB1.out HB2.out
      by_cases h0 : n2 = 0
      · subst h0
        have HMI : Hid (∀ x, ¬ missing l x) := fun x hx => by
          have h1 := (H2.out.2.2.2 x).2 ⟨by have := HN.out; have := HA.out.2.2.2.1; omega, hx⟩
          rw [List.eq_nil_of_length_eq_zero H2.out.1.1] at h1
          cases h1
        go_wp2
        go_loopw [4] (fun u wr => ∃ (p : Option Addr) (m c : Nat) (hs : List Hs), u = .slice p m c ∧ Hid (m ≤ len ∧ Below w.heap.size w wr ∧ wr.ownsRow w.heap.size 34 32 (.slice p m c) m (UU hs) ∧ (∀ h ∈ hs, h.length = 32) ∧ hs.length = m ∧ OrdPre l hs)) (fun u _ => len - lenOf u)
        case atStart => exact ⟨none, 0, 0, [], rfl, ⟨Nat.zero_le _, HB3.out, ⟨by simp [UU], .inl ⟨rfl, rfl⟩⟩, by simp, rfl, fun i h hi => by simp at hi⟩⟩
        case round =>
          obtain ⟨p, m, c, hs, rfl, HJ⟩ := hrel
          have q6 : (m : Int) ≤ 100000 := by have := HJ.out.1; have := HA.out.2.1; omega
          by_cases hml : m < len
          · have q7 : (m : Int) < (len : Int) := by omega
            have HML : Hid (m < len) := hml
            clear hml
            go_wp2
            obtain ⟨W1, hW1⟩ : ∃ W1, W1 = wr := ⟨_, rfl⟩
            subst hW1
            go_loopw [6, 5] (fun u v wr => ∃ (i : Nat) (best : Int), u = .int .i64 (i : Int) ∧ v = .int .i64 best ∧ Hid (i ≤ len ∧ Below W1.heap.size W1 wr ∧ BestI l hs i best)) (fun u _ _ => len - (intOf u).toNat)
            case atStart => exact ⟨0, -1, rfl, rfl, ⟨Nat.zero_le _, Below.refl _ _, .inl ⟨rfl, fun k x hk => absurd hk (by omega)⟩⟩⟩
            case round =>
              obtain ⟨i, best, rfl, rfl, HK⟩ := hrel
              have HBW : Hid (Below w.heap.size w wr) := bt HJ.out.2.1 HK.out.2.1
              have HHS : Hid (HsR wr p m hs) := by
                obtain ⟨a', c', e, h1, _⟩ := own_read HJ.out.2.2.1 HJ.out.2.2.2.1
                cases e
                exact h1.below HK.out.2.1
              by_cases hin : i < len
              · obtain ⟨x, hx⟩ : ∃ x, l[i]? = some x := ⟨_, List.getElem?_eq_getElem (by rw [HA.out.2.2.2.1]; exact hin)⟩
                obtain ⟨b, off, rfl, hb, hel⟩ := HA.out.1.2 (by omega)
                have HX : Hid (i < len ∧ l[i]? = some x ∧ x.name.length = 32 ∧ b < wr.heap.size ∧ wr.rangeAt b (off + i * 33) (U x.name)) := ⟨hin, hx, (hel i x hx).1, Nat.lt_of_lt_of_le hb HBW.out.size, rangeAt_same (hel i x hx).nm (HBW.out.block b hb)⟩
                have HEL : Hid (∀ j y, l[j]? = some y → y.name.length = 32 ∧ wr.rangeAt b (off + j * 33) (U y.name)) := fun j y hy => ⟨(hel j y hy).1, rangeAt_same (hel j y hy).nm (HBW.out.block b hb)⟩
                have q8 : (i : Int) < (len : Int) := by omega
                clear hel hx hin hb
                obtain ⟨B, hB⟩ : ∃ B : Bool, B = true ↔ RdyI hs x := by
                  classical
                  exact ⟨decide (RdyI hs x), decide_eq_true_iff⟩
                have H27 : Hid (∀ V, Below wr.heap.size wr V → Calls Try.prog 27 #[.slice (some ⟨b, off, none⟩) len cap, .slice p m c, .int .i64 (i : Int)] V fun e V1 => e = .returned (.bool B) ∧ Hid (Below V.heap.size V V1)) := fun V hV => ready_tell V _ len cap l p m c hs i x (HA.out.1.below (bt HBW.out hV)) HA.out.2.1 HA.out.2.2.1 (HHS.out.below hV) (by have := HJ.out.1; have := HA.out.2.1; omega) HX.out.2.1 B hB
                have HBB : Hid (B = true ↔ RdyI hs x) := hB
                clear hB
                cases B with
                | false =>
                  have HNR : Hid (¬ RdyI hs x) := fun h => by have := HBB.out.2 h; cases this
                  clear HBB
                  go_wp2
                  refine pick_region_n H27 ?_
                  intro V hV
                  have HV : Hid (Below W1.heap.size W1 V) := bt HK.out.2.1 hV
                  clear hV
                  go_wp2
                  refine ⟨⟨i + 1, best, by simp, rfl, ⟨HX.out.1, HV.out, HK.out.2.2.skip HX.out.2.1 HNR.out⟩⟩, ?_⟩
                  have := HX.out.1; simp [intOf]; omega
                | true =>
                  have HRD : Hid (RdyI hs x) := HBB.out.1 rfl
                  clear HBB
                  rcases HK.out.2.2 with ⟨hb1, hb2⟩ | ⟨j, y, hb1, hb2, hb3, hb4, hb5⟩
                  · subst hb1
                    have HF : Hid (BestI l hs (i + 1) (i : Int)) := BestI.first hb2 HX.out.2.1 HRD.out
                    clear hb2
                    go_wp2
                    refine pick_region_b H27 ?_
                    intro V hV
                    have HV : Hid (Below W1.heap.size W1 V) := bt HK.out.2.1 hV
                    clear hV
                    go_wp2
                    refine ⟨⟨i + 1, (i : Int), by simp, rfl, ⟨HX.out.1, HV.out, HF.out⟩⟩, ?_⟩
                    have := HX.out.1; simp [intOf]; omega
                  · subst hb1
                    have HY : Hid (y.name.length = 32 ∧ wr.rangeAt b (off + j * 33) (U y.name)) := HEL.out j y hb3
                    have q9 : (j : Int) < (len : Int) := by omega
                    cases hr : Op.bytesLess x.name y.name with
                    | true =>
                      have HF : Hid (BestI l hs (i + 1) (i : Int)) := BestI.less hb5 HX.out.2.1 HRD.out (by rw [less_iff] at hr; simpa using hr)
                      have HR : Hid (Op.bytesLess x.name y.name = true) := hr
                      clear hb2 hb3 hb4 hb5 hr
                      go_wp2
                      refine pick_region_t HX.out.2.2.1 HY.out.1 q8 q9 ⟨HX.out.2.2.2.2, HY.out.2, HX.out.2.2.2.1⟩ HR.out H27 ?_
                      intro V hV
                      have HV : Hid (Below W1.heap.size W1 V) := bt HK.out.2.1 hV
                      clear hV
                      go_wp2
                      refine ⟨⟨i + 1, (i : Int), by simp, rfl, ⟨HX.out.1, HV.out, HF.out⟩⟩, ?_⟩
                      have := HX.out.1; simp [intOf]; omega
                    | false =>
                      have HF : Hid (BestI l hs (i + 1) (j : Int)) := BestI.keep hb2 hb3 hb4 hb5 HX.out.2.1 (by rw [less_iff] at hr; simpa using hr)
                      have HR : Hid (Op.bytesLess x.name y.name = false) := hr
                      clear hb2 hb3 hb4 hb5 hr
                      go_wp2
                      refine pick_region_t HX.out.2.2.1 HY.out.1 q8 q9 ⟨HX.out.2.2.2.2, HY.out.2, HX.out.2.2.2.1⟩ HR.out H27 ?_
                      intro V hV
                      have HV : Hid (Below W1.heap.size W1 V) := bt HK.out.2.1 hV
                      clear hV
                      go_wp2
                      refine ⟨⟨i + 1, (j : Int), by simp, rfl, ⟨HX.out.1, HV.out, HF.out⟩⟩, ?_⟩
                      have := HX.out.1; simp [intOf]; omega
              · have q8 : ¬ (i : Int) < (len : Int) := by omega
                have HIL : Hid (i = len) := by show _ = _; have := HK.out.1; omega
                clear hin
                rcases HK.out.2.2 with ⟨hb1, hb2⟩ | ⟨j, y, hb1, hb2, hb3, hb4, hb5⟩
                · subst hb1
                  have HO : Hid (OrderS l hs) := ⟨HJ.out.2.2.2.2.2, fun h hr => by
                    obtain ⟨x, hx, rfl, hrx⟩ := rdy_some hr
                    obtain ⟨k, hk, rfl⟩ := List.mem_iff_getElem.1 hx
                    exact hb2 k _ (by rw [HIL.out, ← HA.out.2.2.2.1]; exact hk) (List.getElem?_eq_getElem hk) hrx⟩
                  clear hb2
                  go_wp2
                  go_ret2
                  exact OrderP.nil (.inr (.inr (.inr (.inl ⟨HN.out, HND.out, HMI.out, ⟨hs, HO.out, by rw [HJ.out.2.2.2.2.1, HA.out.2.2.2.1]; exact HML.out⟩, rfl, rfl⟩)))) HBW.out
                · subst hb1
                  obtain ⟨b, off, rfl, hb, hel⟩ := HA.out.1.2 (by have := HML.out; omega)
                  have HY : Hid (y.name.length = 32 ∧ wr.rangeAt b (off + j * 33) (U y.name)) := ⟨(hel j y hb3).1, rangeAt_same (hel j y hb3).nm (HBW.out.block b hb)⟩
                  have HADD : Hid (OrdPre l (hs ++ [y.name])) := HJ.out.2.2.2.2.2.add HND.out (List.mem_of_getElem? hb3) hb4 (fun x hx hrx => by
                    obtain ⟨k, hk, rfl⟩ := List.mem_iff_getElem.1 hx
                    exact hb5 k _ (by rw [HIL.out, ← HA.out.2.2.2.1]; exact hk) (List.getElem?_eq_getElem hk) hrx)
                  have q9 : (j : Int) < (len : Int) := by have := HIL.out; omega
                  have q10 : ¬ (j : Int) < 0 := by omega
                  clear hb2 hb3 hb4 hb5 hel hb
                  go_wp2_with (first
                    | (with_reducible change wpList _ _ _ ({ dst := some 56, op := _, type := _, pos := _, after := _, guard := _ } :: _) _ _
                       refine wpList_load_mid rfl 34 (.tmp 55) rfl b (off + j * 33) rfl (U y.name) _ HY.out.2 Try.underlying34 rfl (info34 y.name HY.out.1) ?_)
                    | (with_reducible change wpList _ _ _ ({ dst := some 57, op := _, type := _, pos := _, after := _, guard := _ } :: _) _ _
                       refine wpList_bslice1 rfl (.tmp 56) rfl y.name HY.out.1 rfl ?_)
                    | (with_reducible change wpList _ _ _ ({ dst := some 58, op := _, type := _, pos := _, after := _, guard := _ } :: _) _ _
                       refine Hid.out ?_)
                    | fail)
                  show wpList _ _ _ _ _ _
                  have HOW : Hid ((wr.alloc (.cells (U y.name).toArray 34)).ownsRow w.heap.size 34 32 (.slice p m c) m (UU hs) ∧ Below w.heap.size w (wr.alloc (.cells (U y.name).toArray 34))) := ⟨(own_below HJ.out.2.2.1 HK.out.2.1).alloc _, HBW.out.alloc HBW.out.size _⟩
                  refine wpList_app rfl (.tmp 51) (.tmp 57) rfl w.heap.size (.slice p m c) m hs (some ⟨wr.heap.size, 0, none⟩) 1 1 [y.name] rfl rfl HOW.out.1 (HsR.one wr y.name HY.out.1) (by have := HML.out; have := HA.out.2.1; omega) HOW.out.2.size ?_
                  intro v' w' r1 r2 r3
                  have HB7 : Hid (Below w.heap.size w w') := below_row HOW.out.2 r2 HOW.out.1
                  have HLL : Hid (∀ h ∈ hs ++ [y.name], h.length = 32) := fun h hh => by
                    rcases List.mem_append.1 hh with hh | hh
                    · exact HJ.out.2.2.2.1 h hh
                    · simp at hh; subst hh; exact HY.out.1
                  obtain ⟨p', c', rfl, _, _, _⟩ := own_read r1 HLL.out
                  have HR1 : Hid (w'.ownsRow w.heap.size 34 32 (.slice p' (m + 1) c') (m + 1) (UU (hs ++ [y.name]))) := r1
                  clear r1 r2 r3
                  simp only [Act.put, List.setIfInBounds_toArray, List.set_cons_zero, List.set_cons_succ]
                  go_wp2
                  refine ⟨⟨p', m + 1, c', hs ++ [y.name], rfl, ⟨HML.out, HB7.out, HR1.out, HLL.out, by simp [HJ.out.2.2.2.2.1], HADD.out⟩⟩, ?_⟩
                  have := HML.out; simp [lenOf]; omega
          · have q7 : ¬ (m : Int) < (len : Int) := by omega
            have HOS : Hid (OrderS l hs ∧ l.length ≤ hs.length) := by
              have h1 : l.length ≤ hs.length := by rw [HJ.out.2.2.2.2.1, HA.out.2.2.2.1]; omega
              exact ⟨HJ.out.2.2.2.2.2.whole h1, h1⟩
            have HHS : Hid (HsR wr p m hs) := by
              obtain ⟨a', c', e, h1, _⟩ := own_read HJ.out.2.2.1 HJ.out.2.2.2.1
              cases e
              exact h1
            clear hml
            go_wp2
            go_ret2
            exact ⟨p, m, c, 0, hs, rfl, ⟨HHS.out, by have := HJ.out.1; have := HA.out.2.1; omega⟩, .inr (.inr (.inr (.inr ⟨HN.out, HND.out, HMI.out, HOS.out.1, HOS.out.2, rfl⟩))), HJ.out.2.1⟩
      · have e0 : (0 : Int) < (n2 : Int) := by omega
        have HX : Hid (∃ x, missing l x) := by
          cases rs with
          | nil => exact absurd H2.out.1.1.symm h0
          | cons x rs => exact ⟨x, ((H2.out.2.2.2 x).1 (by simp)).2⟩
        clear h0
        go_wp2
        go_ret2
        exact OrderP.nil (.inr (.inr (.inl ⟨HN.out, HND.out, HX.out, rfl, rfl⟩))) HB3.out
end Go.Proofs.Ytijkpkcopjkhkaa.Oct

/- Layer 12 (deps): rows of items that are made. -/
namespace Go.Proofs.Ytijkpkcopjkhkaa.Oct
open Go.RowKit

theorem uncons {α : Type} {n : Nat} {l : List α} (h : l.length = n + 1) : ∃ a t, l = a :: t ∧ t.length = n := by
  cases l with
  | nil => simp at h
  | cons a t => exact ⟨a, t, rfl, by simpa using h⟩
theorem run_build36 (nm : Hs) (hl : nm.length = 32) (ds : List Hs) (p : Option Addr) (n c : Nat) (W : World) : (Instr.build 36 #[(0, .agg (U nm).toArray), (1, .slice p n c)]).run Try.prog W = .ok (.agg (It.cells ⟨nm, ds, p, n, c⟩).toArray) W := by
  obtain ⟨a0, l0, rfl, h0⟩ := uncons hl
  obtain ⟨a1, l1, rfl, h1⟩ := uncons h0
  obtain ⟨a2, l2, rfl, h2⟩ := uncons h1
  obtain ⟨a3, l3, rfl, h3⟩ := uncons h2
  obtain ⟨a4, l4, rfl, h4⟩ := uncons h3
  obtain ⟨a5, l5, rfl, h5⟩ := uncons h4
  obtain ⟨a6, l6, rfl, h6⟩ := uncons h5
  obtain ⟨a7, l7, rfl, h7⟩ := uncons h6
  obtain ⟨a8, l8, rfl, h8⟩ := uncons h7
  obtain ⟨a9, l9, rfl, h9⟩ := uncons h8
  obtain ⟨a10, l10, rfl, h10⟩ := uncons h9
  obtain ⟨a11, l11, rfl, h11⟩ := uncons h10
  obtain ⟨a12, l12, rfl, h12⟩ := uncons h11
  obtain ⟨a13, l13, rfl, h13⟩ := uncons h12
  obtain ⟨a14, l14, rfl, h14⟩ := uncons h13
  obtain ⟨a15, l15, rfl, h15⟩ := uncons h14
  obtain ⟨a16, l16, rfl, h16⟩ := uncons h15
  obtain ⟨a17, l17, rfl, h17⟩ := uncons h16
  obtain ⟨a18, l18, rfl, h18⟩ := uncons h17
  obtain ⟨a19, l19, rfl, h19⟩ := uncons h18
  obtain ⟨a20, l20, rfl, h20⟩ := uncons h19
  obtain ⟨a21, l21, rfl, h21⟩ := uncons h20
  obtain ⟨a22, l22, rfl, h22⟩ := uncons h21
  obtain ⟨a23, l23, rfl, h23⟩ := uncons h22
  obtain ⟨a24, l24, rfl, h24⟩ := uncons h23
  obtain ⟨a25, l25, rfl, h25⟩ := uncons h24
  obtain ⟨a26, l26, rfl, h26⟩ := uncons h25
  obtain ⟨a27, l27, rfl, h27⟩ := uncons h26
  obtain ⟨a28, l28, rfl, h28⟩ := uncons h27
  obtain ⟨a29, l29, rfl, h29⟩ := uncons h28
  obtain ⟨a30, l30, rfl, h30⟩ := uncons h29
  obtain ⟨a31, l31, rfl, h31⟩ := uncons h30
  obtain rfl := List.eq_nil_of_length_eq_zero h31
  kernel_rfl
theorem info36' : ∃ i : TypeInfo, Try.prog.info? 36 = some i ∧ i.size = 33 ∧ i.bytes = 56 ∧ ∃ z, i.zero = some z ∧ z.cells.size = 33 := by
  obtain ⟨i, hi, he⟩ := Option.map_eq_some_iff.1 (show (Try.prog.info? 36).map (fun i => (i.size, i.bytes, i.zero.map (·.cells.size))) = some (33, 56, some 33) by kernel_rfl)
  simp only [Prod.mk.injEq] at he
  obtain ⟨z, hz, hz2⟩ := Option.map_eq_some_iff.1 he.2.2
  exact ⟨i, hi, he.1, he.2.1, z, hz, hz2⟩
theorem run_bslice36 (x : It) (hl : x.name.length = 32) (W : World) : (Instr.buildSlice 22 1 #[(0, .agg x.cells.toArray)]).run Try.prog W = .ok (.slice (some ⟨W.heap.size, 0, none⟩) 1 1) (W.alloc (.cells x.cells.toArray 36)) := by
  obtain ⟨i, hi, hs1, hby, z, hz, hzs⟩ := info36'
  have hx := x.cells_length hl
  have e : ∀ A : Array Value, A.size = 33 → List.foldl (fun cs (x : Value × Nat) => cs.setIfInBounds x.2 x.1) A x.cells.zipIdx = x.cells.toArray := by
    intro A hA
    apply Array.toList_inj.1
    rw [fold_set x.cells 0 A (by rw [hx, hA])]
    simp
  simp [Instr.buildSlice, run_underlying Try.underlying22, sizeOf, typeInfo, hi, hs1, zeroValue, hz, Instr.fill, Value.cells, hx, e]
  simp [newRow]
section
variable {ops : Array Oper} {rest : List Oper} {o : Oper} {a : Act} {w : World} {Q : Exit → Act → World → Prop}
theorem wpList_build36 (hg : o.guard = none) (x y : Operand) (hop : o.op = Op.build 36 #[(0, x), (1, y)]) (nm : Hs) (hl : nm.length = 32) (ds : List Hs) (p : Option Addr) (n c : Nat) (hx : a.eval x = .agg (U nm).toArray) (hy : a.eval y = .slice p n c)
    (hK : wpList Try.prog ops Q rest (a.put o.dst (.agg (It.cells ⟨nm, ds, p, n, c⟩).toArray)) w) : wpList Try.prog ops Q (o :: rest) a w :=
  wpList_b2 hg 36 x y hop _ _ _ hx hy (run_build36 nm hl ds p n c) hK
theorem wpList_bslice36 (hg : o.guard = none) (x : Operand) (hop : o.op = Op.buildSlice 22 1 #[(0, x)]) (y : It) (hl : y.name.length = 32) (hx : a.eval x = .agg y.cells.toArray)
    (hK : wpList Try.prog ops Q rest (a.put o.dst (.slice (some ⟨w.heap.size, 0, none⟩) 1 1)) (w.alloc (.cells y.cells.toArray 36))) : wpList Try.prog ops Q (o :: rest) a w := by
  refine wpList_plain hg fun K' hK' => ?_
  unfold Oper.wp execOp
  simp [hop, hx, run_bslice36 y hl, Result.andThen]
  exact hK' _ _ hK
theorem wpList_append_its (hg : o.guard = none) (s x : Operand) (hop : o.op = Op.call { callee := Callee.builtin Builtin.append, args := #[s, x], argTypes := #[22, 22] }) (B : Nat) (v : Value) (n : Nat) (cs : List Value) (oa : Option Addr) (m c : Nat) (qs : List Value) (hv : a.eval s = v) (hx : a.eval x = .slice oa m c)
    (hb : Bs 36 33 B w v n cs) (ho : Rd w 36 33 oa m qs) (hB : B ≤ w.heap.size) (hn : n + m ≤ 1000000)
    (hK : ∀ v' w', Bs 36 33 B w' v' (n + m) (cs ++ qs) → Below B w w' → wpList Try.prog ops Q rest (a.put o.dst v') w') : wpList Try.prog ops Q (o :: rest) a w := by
  obtain ⟨i, hi, hs1, hby, z, hz, hzs⟩ := info36'
  refine wpList_plain hg fun K' hK' => ?_
  obtain ⟨v', w', hrun, r1, r2⟩ := run_append_bs (P := Try.prog) w 22 o.type 36 i z 33 B Try.underlying22 hi hz hs1 (by omega) hzs (by omega) v n cs hb oa m c qs ho hB (by omega)
  unfold Oper.wp execOp
  simp only [hop, resolve, invoke, builtin, Sem.run_bind, Sem.run_pure, Result.andThen_ok, List.map_toArray, List.map_cons, List.map_nil, hv, hx, hrun]
  exact hK' _ _ (hK v' w' r1 r2)
end
def CC (ms : List It) : List Value := ms.flatMap It.cells
theorem CC_one (ms : List It) : ∀ v ∈ CC ms, v.oneCell' = true := by
  intro v hv
  obtain ⟨x, _, hx⟩ := List.mem_flatMap.1 hv
  exact cells_one x v hx
theorem CC_length {ms : List It} (h : ∀ x ∈ ms, x.name.length = 32) : (CC ms).length = ms.length * 33 := by
  induction ms with
  | nil => rfl
  | cons x ms ih =>
    unfold CC at *
    rw [List.flatMap_cons, List.length_append, ih (fun y hy => h y (by simp [hy])), x.cells_length (h x (by simp))]
    simp; omega
theorem rangeAt_CC {w : World} {g : Nat} : ∀ (ms : List It) (off : Nat), (∀ x ∈ ms, x.name.length = 32) → w.rangeAt g off (CC ms) → ∀ i x, ms[i]? = some x → w.rangeAt g (off + i * 33) x.cells
  | [], off, _, _, i, x, hi => by simp at hi
  | x :: ms, off, hl, h, i, y, hi => by
    have hx := x.cells_length (hl x (by simp))
    have e : CC (x :: ms) = x.cells ++ CC ms := by simp [CC]
    rw [e] at h
    cases i with
    | zero => simp at hi; subst hi; simpa using rangeAt_left h
    | succ i =>
      have h2 := rangeAt_right h
      rw [hx] at h2
      have := rangeAt_CC ms (off + 33) (fun y hy => hl y (by simp [hy])) h2 i y (by simpa using hi)
      rw [show off + (i + 1) * 33 = off + 33 + i * 33 by omega]
      exact this
/-- an item whose own hashes can be read -/
def ItOk (w : World) (x : It) : Prop := x.name.length = 32 ∧ HsR w x.a x.n x.deps ∧ x.n ≤ x.c ∧ x.n ≤ 140737488355328
theorem ItOk.below {w w' : World} {x : It} (h : ItOk w x) (hb : Below w.heap.size w w') : ItOk w' x := ⟨h.1, h.2.1.below hb, h.2.2⟩
/-- a row of items that was made -/
def MRow (w : World) (p : Option Addr) (n : Nat) (ms : List It) : Prop := ms.length = n ∧ Rd w 36 33 p n (CC ms) ∧ ∀ x ∈ ms, ItOk w x
theorem MRow.below {w w' : World} {p : Option Addr} {n : Nat} {ms : List It} (h : MRow w p n ms) (hb : Below w.heap.size w w') : MRow w' p n ms :=
  ⟨h.1, h.2.1.below hb (Nat.le_refl _), fun x hx => (h.2.2 x hx).below hb⟩
theorem MRow.nil (w : World) (p : Option Addr) : MRow w p 0 [] := ⟨rfl, Rd.nil _ _ _ _, by simp⟩
theorem MRow.its {w : World} {p : Option Addr} {n : Nat} {ms : List It} (h : MRow w p n ms) : Its w p n ms := by
  refine ⟨h.1, fun hp => ?_⟩
  obtain ⟨g, off, e, hr, hc⟩ := h.2.1.2.2 hp
  refine ⟨g, off, e, hr.lt, fun i x hi => ?_⟩
  have hk := h.2.2 x (List.mem_of_getElem? hi)
  exact ⟨hk.1, rangeAt_CC ms off (fun y hy => (h.2.2 y hy).1) (fun j v hj => hc j v hj) i x hi, hk.2⟩
/-- a new row of one item, full -/
theorem bs_new (w : World) (x : It) (hl : x.name.length = 32) (B : Nat) : Bs 36 33 B (w.alloc (.cells x.cells.toArray 36)) (.slice (some ⟨w.heap.size, 0, none⟩) 1 1) 1 x.cells := by
  refine .inl ⟨_, rfl, ⟨by rw [x.cells_length hl], cells_one x, fun _ => ⟨_, _, rfl, ?_, fun j u hj => ?_⟩⟩, .inr ⟨_, _, rfl⟩⟩
  · exact (Blk.new w x.cells.toArray 36).row
  · have := (Blk.new w x.cells.toArray 36).cell (i := 0 + j) (v := u) (by simpa using hj)
    exact this
end Go.Proofs.Ytijkpkcopjkhkaa.Oct
