/-
  Layer 20 (review): hashes held against each other; isOf and the closure of Propose.
-/
import Derived.Test.YtaecigpjcbjcbaaVot
import Derived.Deep.RegionHeld
namespace Go.Proofs.Ytaecigpjcbjcbaa.Oct
open Go.RowKit
set_option linter.unusedSimpArgs false
set_option linter.unusedVariables false

theorem U_get (l : List UInt8) (i : Nat) (h : i < l.length) : (U l)[i]? = some (.int .u8 (l[i].toNat : Int)) := by simp [U, h]
set_option maxRecDepth 100000
theorem part5 (xs : Array Value) (i : Nat) (v : Value) (h : xs[i]? = some v) (W : World) : (part 5 xs i).run Try.prog W = .ok v W := by
  simp [part, isAgg, run_underlying Try.underlying5, h]
theorem eqItems_is (a b : Hs) (ha : a.length = 32) (hb : b.length = 32) (W : World) : ∀ is : List Nat, (∀ i ∈ is, i < 32) → (Op.eqItems 9999 5 1 (U a).toArray (U b).toArray is).run Try.prog W = .ok (is.all fun i => a[i]? == b[i]?) W
  | [], _ => by simp [Op.eqItems]
  | i :: is, h => by
    have hi : i < 32 := h i (by simp)
    have hia : i < a.length := by omega
    have hib : i < b.length := by omega
    have hp := part5 (U a).toArray i _ (by rw [List.getElem?_toArray]; exact U_get a i hia) W
    have hp2 := part5 (U b).toArray i _ (by rw [List.getElem?_toArray]; exact U_get b i hib) W
    have he := run_equalIn_int (P := Try.prog) (w := W) 9998 5 .u8 .u8 (a[i].toNat : Int) (b[i].toNat : Int) Try.underlying5
    have ih := eqItems_is a b ha hb W is (fun j hj => h j (by simp [hj]))
    have e1 : (a[i]? == b[i]?) = ((a[i].toNat : Int) == (b[i].toNat : Int)) := by
      rw [List.getElem?_eq_getElem hia, List.getElem?_eq_getElem hib]
      by_cases hc : a[i] = b[i]
      · simp [hc]
      · have : ¬ (a[i].toNat : Int) = b[i].toNat := fun hx => hc (UInt8.toNat_inj.1 (by omega))
        rw [beq_eq_false_iff_ne.2 this]
        simpa using hc
    simp only [Op.eqItems, Sem.run_bind, Nat.mul_one, hp, hp2, Result.andThen_ok, he]
    simp only [List.all_cons, e1]
    cases hc : ((a[i].toNat : Int) == (b[i].toNat : Int)) with
    | true => simpa using ih
    | false => simp
theorem eqH (a b : Hs) (ha : a.length = 32) (hb : b.length = 32) (W : World) : (Op.equalIn 10000 32 (.agg (U a).toArray) (.agg (U b).toArray)).run Try.prog W = .ok (decide (a = b)) W := by
  obtain ⟨i, hi, -⟩ := Option.map_eq_some_iff.1 (show (Try.prog.info? 5).map (·.size) = some 1 by kernel_rfl)
  rw [run_equalIn_array W 9999 (U a).toArray (U b).toArray Try.underlying32 hi, show Try.prog.cellsOf 5 = 1 by kernel_rfl, eqItems_is a b ha hb W _ (by intro i hi; rw [List.mem_range] at hi; omega)]
  congr 1
  rw [Bool.eq_iff_iff]
  simp only [List.all_eq_true, List.mem_range, beq_iff_eq, decide_eq_true_eq]
  constructor
  · intro h
    apply List.ext_getElem?
    intro i
    by_cases hi : i < 32
    · exact h i hi
    · rw [List.getElem?_eq_none (by omega), List.getElem?_eq_none (by omega)]
  · rintro rfl i _; rfl

theorem rangeAt_same {w w' : World} {b o : Nat} {cs : List Value} (h : w.rangeAt b o cs) (hs : w'.heap[b]? = w.heap[b]?) : w'.rangeAt b o cs :=
  fun j v hj => (World.cell?_of_block (a := ⟨b, o + j, none⟩) hs).trans (h j v hj)
theorem info32 : ∀ (h : Hs), h.length = 32 → (Try.prog.info? 32).map (·.size) = some (U h).length := by
  intro h hl; rw [U_length, hl]; kernel_rfl
set_option maxRecDepth 100000 in
set_option maxHeartbeats 4000000 in
theorem isof1 {Q : Exit → Act → World → Prop} {x2 x3 x4 x6 x7 x8 x9 x10 x11 x12 x13 x14 x15 x16 x17 x18 x19 x20 : Value} {ds : List Deferred} {A : World} {g o q : Nat} {p : Pr} {ch : BA} {h : Hs} {r : Bool}
    (HL : Hid (g < A.heap.size ∧ q < A.heap.size ∧ A.rangeAt g (o + 2) (U p.patch) ∧ A.rangeAt q 0 (U h) ∧ p.patch.length = 32 ∧ h.length = 32)) (g1 : A.cell? ⟨g, o + 1, none⟩ = some (.string p.channel)) (hch : (p.channel.toList == ch.toList) = true) (hr : Hid (decide (p.patch = h) = r))
    (hQ : ∀ V1, Below A.heap.size A V1 → Q .normal { tmps := #[.pointer (some ⟨g, o, none⟩), .string ch, x2, x3, x4, .pointer (some ⟨q, 0, none⟩), .bool r, .pointer (some ⟨g, o, none⟩), .pointer (some ⟨g, o, none⟩), .pointer (some ⟨g, o + 1, none⟩), .string p.channel, .string ch, .bool true, .bool true, .pointer (some ⟨g, o, none⟩), .pointer (some ⟨g, o, none⟩), .pointer (some ⟨g, o + 2, none⟩), .agg (U p.patch).toArray, .agg (U h).toArray, .bool r, .bool r], defers := ds } V1) :
    (Code.region 1 #[{ dst := some 7, op := Op.move (Operand.tmp 0), type := 82, pos := "proposal.go:28", after := #[], guard := none }, { dst := some 8, op := Op.nilCheck (Operand.tmp 7), type := 0, pos := "proposal.go:28", after := #[{ on := 0, ground := Ground.data }], guard := none }, { dst := some 9, op := Op.fieldAddr 87 (Operand.tmp 8) 1, type := 0, pos := "proposal.go:28", after := #[{ on := 1, ground := Ground.data }], guard := none }, { dst := some 10, op := Op.load 9 (Operand.tmp 9), type := 9, pos := "proposal.go:28", after := #[{ on := 2, ground := Ground.data }], guard := none }, { dst := some 11, op := Op.move (Operand.tmp 1), type := 9, pos := "proposal.go:28", after := #[], guard := none }, { dst := some 12, op := Op.binOp BinOp.eql 9 (Operand.tmp 10) (Operand.tmp 11) 9, type := 4, pos := "proposal.go:28", after := #[{ on := 3, ground := Ground.data }, { on := 4, ground := Ground.data }], guard := none }, { dst := some 13, op := Op.move (Operand.tmp 12), type := 4, pos := "proposal.go:28", after := #[{ on := 5, ground := Ground.data }], guard := none }, { dst := some 14, op := Op.move (Operand.tmp 0), type := 82, pos := "proposal.go:28", after := #[{ on := 6, ground := Ground.guard }], guard := some (6, true) }, { dst := some 15, op := Op.nilCheck (Operand.tmp 14), type := 0, pos := "proposal.go:28", after := #[{ on := 7, ground := Ground.data }, { on := 6, ground := Ground.guard }], guard := some (6, true) }, { dst := some 16, op := Op.fieldAddr 87 (Operand.tmp 15) 2, type := 0, pos := "proposal.go:28", after := #[{ on := 8, ground := Ground.data }, { on := 6, ground := Ground.guard }], guard := some (6, true) }, { dst := some 17, op := Op.load 32 (Operand.tmp 16), type := 32, pos := "proposal.go:28", after := #[{ on := 9, ground := Ground.data }, { on := 6, ground := Ground.guard }], guard := some (6, true) }, { dst := some 18, op := Op.load 32 (Operand.tmp 5), type := 32, pos := "proposal.go:28", after := #[{ on := 6, ground := Ground.guard }], guard := some (6, true) }, { dst := some 19, op := Op.binOp BinOp.eql 32 (Operand.tmp 17) (Operand.tmp 18) 32, type := 4, pos := "proposal.go:28", after := #[{ on := 10, ground := Ground.data }, { on := 11, ground := Ground.data }, { on := 6, ground := Ground.guard }], guard := some (6, true) }, { dst := some 20, op := Op.pick (Operand.tmp 13) (Operand.tmp 19) (Operand.const (Value.bool false)), type := 4, pos := "proposal.go:28", after := #[{ on := 6, ground := Ground.data }, { on := 12, ground := Ground.data }], guard := none }, { dst := some 6, op := Op.assign (Operand.tmp 20), type := 4, pos := "proposal.go:28", after := #[{ on := 13, ground := Ground.data }, { on := 6, ground := Ground.chain }, { on := 0, ground := Ground.phase }, { on := 1, ground := Ground.phase }, { on := 2, ground := Ground.phase }, { on := 3, ground := Ground.phase }, { on := 4, ground := Ground.phase }, { on := 5, ground := Ground.phase }, { on := 6, ground := Ground.phase }, { on := 7, ground := Ground.phase }, { on := 8, ground := Ground.phase }, { on := 9, ground := Ground.phase }, { on := 10, ground := Ground.phase }, { on := 11, ground := Ground.phase }, { on := 12, ground := Ground.phase }, { on := 13, ground := Ground.phase }], guard := none }] true).wp Try.prog Q { tmps := #[.pointer (some ⟨g, o, none⟩), .string ch, x2, x3, x4, .pointer (some ⟨q, 0, none⟩), x6, x7, x8, x9, x10, x11, x12, x13, x14, x15, x16, x17, x18, x19, x20], defers := ds } A := by
  refine Code.wp_mono (Q := fun x a' w' => match x with | .normal => Q .normal a' w' | _ => False) (by intro x a' w' h; cases x <;> first | exact h | exact h.elim) ?_
  refine wp_region_held (S := fun V => Below A.heap.size A V) (by kernel_rfl) ?_
  have hS0 : Hid (Below A.heap.size A A.drew) := below_drew0 A
  change wpAnyH Try.prog .any _ _ (fun V => Below A.heap.size A V) 15 (Array.replicate 15 false) _ A.drew
  obtain ⟨V0, hV0⟩ : ∃ V0, A.drew = V0 := ⟨_, rfl⟩
  rw [hV0]
  rw [hV0] at hS0
  clear hV0
  refine wpAnyH_take (i := 0) (oi := { dst := some 7, op := Op.move (Operand.tmp 0), type := 82, pos := "proposal.go:28", after := #[], guard := none }) (v := .pointer (some ⟨g, o, none⟩)) rfl (by kernel_rfl) (by kernel_rfl) (by kernel_rfl) (fun _ _ _ h => h.elim) (Or.inl ⟨by rfl, ?y1⟩) hS0.out ?_
  case y1 =>
    intro V hV
    go_simp
  simp only [Act.put, List.setIfInBounds_toArray, List.set_cons_zero, List.set_cons_succ]
  refine wpAnyH_take (i := 1) (oi := { dst := some 8, op := Op.nilCheck (Operand.tmp 7), type := 0, pos := "proposal.go:28", after := #[{ on := 0, ground := Ground.data }], guard := none }) (v := .pointer (some ⟨g, o, none⟩)) rfl (by kernel_rfl) (by kernel_rfl) (by kernel_rfl) (fun _ _ _ h => h.elim) (Or.inl ⟨by rfl, ?y2⟩) hS0.out ?_
  case y2 =>
    intro V hV
    go_simp
  simp only [Act.put, List.setIfInBounds_toArray, List.set_cons_zero, List.set_cons_succ]
  refine wpAnyH_take (i := 2) (oi := { dst := some 9, op := Op.fieldAddr 87 (Operand.tmp 8) 1, type := 0, pos := "proposal.go:28", after := #[{ on := 1, ground := Ground.data }], guard := none }) (v := .pointer (some ⟨g, o + 1, none⟩)) rfl (by kernel_rfl) (by kernel_rfl) (by kernel_rfl) (fun _ _ _ h => h.elim) (Or.inl ⟨by rfl, ?y3⟩) hS0.out ?_
  case y3 =>
    intro V hV
    go_simp
  simp only [Act.put, List.setIfInBounds_toArray, List.set_cons_zero, List.set_cons_succ]
  refine wpAnyH_take (i := 3) (oi := { dst := some 10, op := Op.load 9 (Operand.tmp 9), type := 9, pos := "proposal.go:28", after := #[{ on := 2, ground := Ground.data }], guard := none }) (v := .string p.channel) rfl (by kernel_rfl) (by kernel_rfl) (by kernel_rfl) (fun _ _ _ h => h.elim) (Or.inl ⟨by rfl, ?y4⟩) hS0.out ?_
  case y4 =>
    intro V hV
    have hc : V.cell? ⟨g, o + 1, none⟩ = some (.string p.channel) := ((show Below A.heap.size A V from hV).cell (p := ⟨g, o + 1, none⟩) HL.out.1).trans g1
    go_simp
  simp only [Act.put, List.setIfInBounds_toArray, List.set_cons_zero, List.set_cons_succ]
  refine wpAnyH_take (i := 4) (oi := { dst := some 11, op := Op.move (Operand.tmp 1), type := 9, pos := "proposal.go:28", after := #[], guard := none }) (v := .string ch) rfl (by kernel_rfl) (by kernel_rfl) (by kernel_rfl) (fun _ _ _ h => h.elim) (Or.inl ⟨by rfl, ?y5⟩) hS0.out ?_
  case y5 =>
    intro V hV
    go_simp
  simp only [Act.put, List.setIfInBounds_toArray, List.set_cons_zero, List.set_cons_succ]
  refine wpAnyH_take (i := 5) (oi := { dst := some 12, op := Op.binOp BinOp.eql 9 (Operand.tmp 10) (Operand.tmp 11) 9, type := 4, pos := "proposal.go:28", after := #[{ on := 3, ground := Ground.data }, { on := 4, ground := Ground.data }], guard := none }) (v := .bool true) rfl (by kernel_rfl) (by kernel_rfl) (by kernel_rfl) (fun _ _ _ h => h.elim) (Or.inl ⟨by rfl, ?y6⟩) hS0.out ?_
  case y6 =>
    intro V hV
    have hcmp := hch
    go_simp
  simp only [Act.put, List.setIfInBounds_toArray, List.set_cons_zero, List.set_cons_succ]
  refine wpAnyH_take (i := 6) (oi := { dst := some 13, op := Op.move (Operand.tmp 12), type := 4, pos := "proposal.go:28", after := #[{ on := 5, ground := Ground.data }], guard := none }) (v := .bool true) rfl (by kernel_rfl) (by kernel_rfl) (by kernel_rfl) (fun _ _ _ h => h.elim) (Or.inl ⟨by rfl, ?y7⟩) hS0.out ?_
  case y7 =>
    intro V hV
    go_simp
  simp only [Act.put, List.setIfInBounds_toArray, List.set_cons_zero, List.set_cons_succ]
  refine wpAnyH_take (i := 7) (oi := { dst := some 14, op := Op.move (Operand.tmp 0), type := 82, pos := "proposal.go:28", after := #[{ on := 6, ground := Ground.guard }], guard := some (6, true) }) (v := .pointer (some ⟨g, o, none⟩)) rfl (by kernel_rfl) (by kernel_rfl) (by kernel_rfl) (fun _ _ _ h => h.elim) (Or.inl ⟨by rfl, ?y8⟩) hS0.out ?_
  case y8 =>
    intro V hV
    go_simp
  simp only [Act.put, List.setIfInBounds_toArray, List.set_cons_zero, List.set_cons_succ]
  refine wpAnyH_take (i := 8) (oi := { dst := some 15, op := Op.nilCheck (Operand.tmp 14), type := 0, pos := "proposal.go:28", after := #[{ on := 7, ground := Ground.data }, { on := 6, ground := Ground.guard }], guard := some (6, true) }) (v := .pointer (some ⟨g, o, none⟩)) rfl (by kernel_rfl) (by kernel_rfl) (by kernel_rfl) (fun _ _ _ h => h.elim) (Or.inl ⟨by rfl, ?y9⟩) hS0.out ?_
  case y9 =>
    intro V hV
    go_simp
  simp only [Act.put, List.setIfInBounds_toArray, List.set_cons_zero, List.set_cons_succ]
  refine wpAnyH_take (i := 9) (oi := { dst := some 16, op := Op.fieldAddr 87 (Operand.tmp 15) 2, type := 0, pos := "proposal.go:28", after := #[{ on := 8, ground := Ground.data }, { on := 6, ground := Ground.guard }], guard := some (6, true) }) (v := .pointer (some ⟨g, o + 2, none⟩)) rfl (by kernel_rfl) (by kernel_rfl) (by kernel_rfl) (fun _ _ _ h => h.elim) (Or.inl ⟨by rfl, ?y10⟩) hS0.out ?_
  case y10 =>
    intro V hV
    go_simp
  simp only [Act.put, List.setIfInBounds_toArray, List.set_cons_zero, List.set_cons_succ]
  refine wpAnyH_take (i := 10) (oi := { dst := some 17, op := Op.load 32 (Operand.tmp 16), type := 32, pos := "proposal.go:28", after := #[{ on := 9, ground := Ground.data }, { on := 6, ground := Ground.guard }], guard := some (6, true) }) (v := .agg (U p.patch).toArray) rfl (by kernel_rfl) (by kernel_rfl) (by kernel_rfl) (fun _ _ _ h => h.elim) (yieldsIf_load_mid (by rfl) _ _ rfl _ _ rfl (U p.patch) _ (fun V hV => rangeAt_same (HL.out.2.2.1) ((show Below A.heap.size A V from hV).block _ (HL.out.1))) Try.underlying32 rfl (info32 _ HL.out.2.2.2.2.1)) hS0.out ?_
  simp only [Act.put, List.setIfInBounds_toArray, List.set_cons_zero, List.set_cons_succ]
  refine wpAnyH_take (i := 11) (oi := { dst := some 18, op := Op.load 32 (Operand.tmp 5), type := 32, pos := "proposal.go:28", after := #[{ on := 6, ground := Ground.guard }], guard := some (6, true) }) (v := .agg (U h).toArray) rfl (by kernel_rfl) (by kernel_rfl) (by kernel_rfl) (fun _ _ _ h => h.elim) (yieldsIf_load_mid (by rfl) _ _ rfl _ _ rfl (U h) _ (fun V hV => rangeAt_same (HL.out.2.2.2.1) ((show Below A.heap.size A V from hV).block _ (HL.out.2.1))) Try.underlying32 rfl (info32 _ HL.out.2.2.2.2.2)) hS0.out ?_
  simp only [Act.put, List.setIfInBounds_toArray, List.set_cons_zero, List.set_cons_succ]
  refine wpAnyH_take (i := 12) (oi := { dst := some 19, op := Op.binOp BinOp.eql 32 (Operand.tmp 17) (Operand.tmp 18) 32, type := 4, pos := "proposal.go:28", after := #[{ on := 10, ground := Ground.data }, { on := 11, ground := Ground.data }, { on := 6, ground := Ground.guard }], guard := some (6, true) }) (v := .bool r) rfl (by kernel_rfl) (by kernel_rfl) (by kernel_rfl) (fun _ _ _ h => h.elim) (Or.inl ⟨by rfl, ?y11⟩) hS0.out ?_
  case y11 =>
    intro V hV
    have hcmp := eqH p.patch h HL.out.2.2.2.2.1 HL.out.2.2.2.2.2 V
    rw [hr.out] at hcmp
    go_simp
  simp only [Act.put, List.setIfInBounds_toArray, List.set_cons_zero, List.set_cons_succ]
  refine wpAnyH_take (i := 13) (oi := { dst := some 20, op := Op.pick (Operand.tmp 13) (Operand.tmp 19) (Operand.const (Value.bool false)), type := 4, pos := "proposal.go:28", after := #[{ on := 6, ground := Ground.data }, { on := 12, ground := Ground.data }], guard := none }) (v := .bool r) rfl (by kernel_rfl) (by kernel_rfl) (by kernel_rfl) (fun _ _ _ h => h.elim) (Or.inl ⟨by rfl, ?y12⟩) hS0.out ?_
  case y12 =>
    intro V hV
    go_simp
  simp only [Act.put, List.setIfInBounds_toArray, List.set_cons_zero, List.set_cons_succ]
  refine wpAnyH_take (i := 14) (oi := { dst := some 6, op := Op.assign (Operand.tmp 20), type := 4, pos := "proposal.go:28", after := #[{ on := 13, ground := Ground.data }, { on := 6, ground := Ground.chain }, { on := 0, ground := Ground.phase }, { on := 1, ground := Ground.phase }, { on := 2, ground := Ground.phase }, { on := 3, ground := Ground.phase }, { on := 4, ground := Ground.phase }, { on := 5, ground := Ground.phase }, { on := 6, ground := Ground.phase }, { on := 7, ground := Ground.phase }, { on := 8, ground := Ground.phase }, { on := 9, ground := Ground.phase }, { on := 10, ground := Ground.phase }, { on := 11, ground := Ground.phase }, { on := 12, ground := Ground.phase }, { on := 13, ground := Ground.phase }], guard := none }) (v := .bool r) rfl (by kernel_rfl) (by kernel_rfl) (by kernel_rfl) (fun _ _ _ h => h.elim) (Or.inl ⟨by rfl, ?y13⟩) hS0.out ?_
  case y13 =>
    intro V hV
    go_simp
  simp only [Act.put, List.setIfInBounds_toArray, List.set_cons_zero, List.set_cons_succ]
  refine wpAnyH_done (by kernel_rfl) ?_ _
  exact hQ V0 hS0.out
#print axioms isof1
set_option maxRecDepth 100000 in
set_option maxHeartbeats 4000000 in
theorem isof0 {Q : Exit → Act → World → Prop} {x2 x3 x4 x6 x7 x8 x9 x10 x11 x12 x13 x14 x15 x16 x17 x18 x19 x20 : Value} {ds : List Deferred} {A : World} {g o q : Nat} {p : Pr} {ch : BA} {h : Hs} {r : Bool}
    (HL : Hid (g < A.heap.size ∧ q < A.heap.size ∧ A.rangeAt g (o + 2) (U p.patch) ∧ A.rangeAt q 0 (U h) ∧ p.patch.length = 32 ∧ h.length = 32)) (g1 : A.cell? ⟨g, o + 1, none⟩ = some (.string p.channel)) (hch : (p.channel.toList == ch.toList) = false) (hr : Hid (decide (p.patch = h) = r))
    (hQ : ∀ V1, Below A.heap.size A V1 → Q .normal { tmps := #[.pointer (some ⟨g, o, none⟩), .string ch, x2, x3, x4, .pointer (some ⟨q, 0, none⟩), .bool false, .pointer (some ⟨g, o, none⟩), .pointer (some ⟨g, o, none⟩), .pointer (some ⟨g, o + 1, none⟩), .string p.channel, .string ch, .bool false, .bool false, undef, undef, undef, undef, undef, undef, .bool false], defers := ds } V1) :
    (Code.region 1 #[{ dst := some 7, op := Op.move (Operand.tmp 0), type := 82, pos := "proposal.go:28", after := #[], guard := none }, { dst := some 8, op := Op.nilCheck (Operand.tmp 7), type := 0, pos := "proposal.go:28", after := #[{ on := 0, ground := Ground.data }], guard := none }, { dst := some 9, op := Op.fieldAddr 87 (Operand.tmp 8) 1, type := 0, pos := "proposal.go:28", after := #[{ on := 1, ground := Ground.data }], guard := none }, { dst := some 10, op := Op.load 9 (Operand.tmp 9), type := 9, pos := "proposal.go:28", after := #[{ on := 2, ground := Ground.data }], guard := none }, { dst := some 11, op := Op.move (Operand.tmp 1), type := 9, pos := "proposal.go:28", after := #[], guard := none }, { dst := some 12, op := Op.binOp BinOp.eql 9 (Operand.tmp 10) (Operand.tmp 11) 9, type := 4, pos := "proposal.go:28", after := #[{ on := 3, ground := Ground.data }, { on := 4, ground := Ground.data }], guard := none }, { dst := some 13, op := Op.move (Operand.tmp 12), type := 4, pos := "proposal.go:28", after := #[{ on := 5, ground := Ground.data }], guard := none }, { dst := some 14, op := Op.move (Operand.tmp 0), type := 82, pos := "proposal.go:28", after := #[{ on := 6, ground := Ground.guard }], guard := some (6, true) }, { dst := some 15, op := Op.nilCheck (Operand.tmp 14), type := 0, pos := "proposal.go:28", after := #[{ on := 7, ground := Ground.data }, { on := 6, ground := Ground.guard }], guard := some (6, true) }, { dst := some 16, op := Op.fieldAddr 87 (Operand.tmp 15) 2, type := 0, pos := "proposal.go:28", after := #[{ on := 8, ground := Ground.data }, { on := 6, ground := Ground.guard }], guard := some (6, true) }, { dst := some 17, op := Op.load 32 (Operand.tmp 16), type := 32, pos := "proposal.go:28", after := #[{ on := 9, ground := Ground.data }, { on := 6, ground := Ground.guard }], guard := some (6, true) }, { dst := some 18, op := Op.load 32 (Operand.tmp 5), type := 32, pos := "proposal.go:28", after := #[{ on := 6, ground := Ground.guard }], guard := some (6, true) }, { dst := some 19, op := Op.binOp BinOp.eql 32 (Operand.tmp 17) (Operand.tmp 18) 32, type := 4, pos := "proposal.go:28", after := #[{ on := 10, ground := Ground.data }, { on := 11, ground := Ground.data }, { on := 6, ground := Ground.guard }], guard := some (6, true) }, { dst := some 20, op := Op.pick (Operand.tmp 13) (Operand.tmp 19) (Operand.const (Value.bool false)), type := 4, pos := "proposal.go:28", after := #[{ on := 6, ground := Ground.data }, { on := 12, ground := Ground.data }], guard := none }, { dst := some 6, op := Op.assign (Operand.tmp 20), type := 4, pos := "proposal.go:28", after := #[{ on := 13, ground := Ground.data }, { on := 6, ground := Ground.chain }, { on := 0, ground := Ground.phase }, { on := 1, ground := Ground.phase }, { on := 2, ground := Ground.phase }, { on := 3, ground := Ground.phase }, { on := 4, ground := Ground.phase }, { on := 5, ground := Ground.phase }, { on := 6, ground := Ground.phase }, { on := 7, ground := Ground.phase }, { on := 8, ground := Ground.phase }, { on := 9, ground := Ground.phase }, { on := 10, ground := Ground.phase }, { on := 11, ground := Ground.phase }, { on := 12, ground := Ground.phase }, { on := 13, ground := Ground.phase }], guard := none }] true).wp Try.prog Q { tmps := #[.pointer (some ⟨g, o, none⟩), .string ch, x2, x3, x4, .pointer (some ⟨q, 0, none⟩), x6, x7, x8, x9, x10, x11, x12, x13, x14, x15, x16, x17, x18, x19, x20], defers := ds } A := by
  refine Code.wp_mono (Q := fun x a' w' => match x with | .normal => Q .normal a' w' | _ => False) (by intro x a' w' h; cases x <;> first | exact h | exact h.elim) ?_
  refine wp_region_held (S := fun V => Below A.heap.size A V) (by kernel_rfl) ?_
  have hS0 : Hid (Below A.heap.size A A.drew) := below_drew0 A
  change wpAnyH Try.prog .any _ _ (fun V => Below A.heap.size A V) 15 (Array.replicate 15 false) _ A.drew
  obtain ⟨V0, hV0⟩ : ∃ V0, A.drew = V0 := ⟨_, rfl⟩
  rw [hV0]
  rw [hV0] at hS0
  clear hV0
  refine wpAnyH_take (i := 0) (oi := { dst := some 7, op := Op.move (Operand.tmp 0), type := 82, pos := "proposal.go:28", after := #[], guard := none }) (v := .pointer (some ⟨g, o, none⟩)) rfl (by kernel_rfl) (by kernel_rfl) (by kernel_rfl) (fun _ _ _ h => h.elim) (Or.inl ⟨by rfl, ?y1⟩) hS0.out ?_
  case y1 =>
    intro V hV
    go_simp
  simp only [Act.put, List.setIfInBounds_toArray, List.set_cons_zero, List.set_cons_succ]
  refine wpAnyH_take (i := 1) (oi := { dst := some 8, op := Op.nilCheck (Operand.tmp 7), type := 0, pos := "proposal.go:28", after := #[{ on := 0, ground := Ground.data }], guard := none }) (v := .pointer (some ⟨g, o, none⟩)) rfl (by kernel_rfl) (by kernel_rfl) (by kernel_rfl) (fun _ _ _ h => h.elim) (Or.inl ⟨by rfl, ?y2⟩) hS0.out ?_
  case y2 =>
    intro V hV
    go_simp
  simp only [Act.put, List.setIfInBounds_toArray, List.set_cons_zero, List.set_cons_succ]
  refine wpAnyH_take (i := 2) (oi := { dst := some 9, op := Op.fieldAddr 87 (Operand.tmp 8) 1, type := 0, pos := "proposal.go:28", after := #[{ on := 1, ground := Ground.data }], guard := none }) (v := .pointer (some ⟨g, o + 1, none⟩)) rfl (by kernel_rfl) (by kernel_rfl) (by kernel_rfl) (fun _ _ _ h => h.elim) (Or.inl ⟨by rfl, ?y3⟩) hS0.out ?_
  case y3 =>
    intro V hV
    go_simp
  simp only [Act.put, List.setIfInBounds_toArray, List.set_cons_zero, List.set_cons_succ]
  refine wpAnyH_take (i := 3) (oi := { dst := some 10, op := Op.load 9 (Operand.tmp 9), type := 9, pos := "proposal.go:28", after := #[{ on := 2, ground := Ground.data }], guard := none }) (v := .string p.channel) rfl (by kernel_rfl) (by kernel_rfl) (by kernel_rfl) (fun _ _ _ h => h.elim) (Or.inl ⟨by rfl, ?y4⟩) hS0.out ?_
  case y4 =>
    intro V hV
    have hc : V.cell? ⟨g, o + 1, none⟩ = some (.string p.channel) := ((show Below A.heap.size A V from hV).cell (p := ⟨g, o + 1, none⟩) HL.out.1).trans g1
    go_simp
  simp only [Act.put, List.setIfInBounds_toArray, List.set_cons_zero, List.set_cons_succ]
  refine wpAnyH_take (i := 4) (oi := { dst := some 11, op := Op.move (Operand.tmp 1), type := 9, pos := "proposal.go:28", after := #[], guard := none }) (v := .string ch) rfl (by kernel_rfl) (by kernel_rfl) (by kernel_rfl) (fun _ _ _ h => h.elim) (Or.inl ⟨by rfl, ?y5⟩) hS0.out ?_
  case y5 =>
    intro V hV
    go_simp
  simp only [Act.put, List.setIfInBounds_toArray, List.set_cons_zero, List.set_cons_succ]
  refine wpAnyH_take (i := 5) (oi := { dst := some 12, op := Op.binOp BinOp.eql 9 (Operand.tmp 10) (Operand.tmp 11) 9, type := 4, pos := "proposal.go:28", after := #[{ on := 3, ground := Ground.data }, { on := 4, ground := Ground.data }], guard := none }) (v := .bool false) rfl (by kernel_rfl) (by kernel_rfl) (by kernel_rfl) (fun _ _ _ h => h.elim) (Or.inl ⟨by rfl, ?y6⟩) hS0.out ?_
  case y6 =>
    intro V hV
    have hcmp := hch
    go_simp
  simp only [Act.put, List.setIfInBounds_toArray, List.set_cons_zero, List.set_cons_succ]
  refine wpAnyH_take (i := 6) (oi := { dst := some 13, op := Op.move (Operand.tmp 12), type := 4, pos := "proposal.go:28", after := #[{ on := 5, ground := Ground.data }], guard := none }) (v := .bool false) rfl (by kernel_rfl) (by kernel_rfl) (by kernel_rfl) (fun _ _ _ h => h.elim) (Or.inl ⟨by rfl, ?y7⟩) hS0.out ?_
  case y7 =>
    intro V hV
    go_simp
  simp only [Act.put, List.setIfInBounds_toArray, List.set_cons_zero, List.set_cons_succ]
  refine wpAnyH_take (i := 7) (oi := { dst := some 14, op := Op.move (Operand.tmp 0), type := 82, pos := "proposal.go:28", after := #[{ on := 6, ground := Ground.guard }], guard := some (6, true) }) (v := undef) rfl (by kernel_rfl) (by kernel_rfl) (by kernel_rfl) (fun _ _ _ h => h.elim) (Or.inr ⟨by rfl, rfl⟩) hS0.out ?_
  simp only [Act.put, List.setIfInBounds_toArray, List.set_cons_zero, List.set_cons_succ]
  refine wpAnyH_take (i := 8) (oi := { dst := some 15, op := Op.nilCheck (Operand.tmp 14), type := 0, pos := "proposal.go:28", after := #[{ on := 7, ground := Ground.data }, { on := 6, ground := Ground.guard }], guard := some (6, true) }) (v := undef) rfl (by kernel_rfl) (by kernel_rfl) (by kernel_rfl) (fun _ _ _ h => h.elim) (Or.inr ⟨by rfl, rfl⟩) hS0.out ?_
  simp only [Act.put, List.setIfInBounds_toArray, List.set_cons_zero, List.set_cons_succ]
  refine wpAnyH_take (i := 9) (oi := { dst := some 16, op := Op.fieldAddr 87 (Operand.tmp 15) 2, type := 0, pos := "proposal.go:28", after := #[{ on := 8, ground := Ground.data }, { on := 6, ground := Ground.guard }], guard := some (6, true) }) (v := undef) rfl (by kernel_rfl) (by kernel_rfl) (by kernel_rfl) (fun _ _ _ h => h.elim) (Or.inr ⟨by rfl, rfl⟩) hS0.out ?_
  simp only [Act.put, List.setIfInBounds_toArray, List.set_cons_zero, List.set_cons_succ]
  refine wpAnyH_take (i := 10) (oi := { dst := some 17, op := Op.load 32 (Operand.tmp 16), type := 32, pos := "proposal.go:28", after := #[{ on := 9, ground := Ground.data }, { on := 6, ground := Ground.guard }], guard := some (6, true) }) (v := undef) rfl (by kernel_rfl) (by kernel_rfl) (by kernel_rfl) (fun _ _ _ h => h.elim) (Or.inr ⟨by rfl, rfl⟩) hS0.out ?_
  simp only [Act.put, List.setIfInBounds_toArray, List.set_cons_zero, List.set_cons_succ]
  refine wpAnyH_take (i := 11) (oi := { dst := some 18, op := Op.load 32 (Operand.tmp 5), type := 32, pos := "proposal.go:28", after := #[{ on := 6, ground := Ground.guard }], guard := some (6, true) }) (v := undef) rfl (by kernel_rfl) (by kernel_rfl) (by kernel_rfl) (fun _ _ _ h => h.elim) (Or.inr ⟨by rfl, rfl⟩) hS0.out ?_
  simp only [Act.put, List.setIfInBounds_toArray, List.set_cons_zero, List.set_cons_succ]
  refine wpAnyH_take (i := 12) (oi := { dst := some 19, op := Op.binOp BinOp.eql 32 (Operand.tmp 17) (Operand.tmp 18) 32, type := 4, pos := "proposal.go:28", after := #[{ on := 10, ground := Ground.data }, { on := 11, ground := Ground.data }, { on := 6, ground := Ground.guard }], guard := some (6, true) }) (v := undef) rfl (by kernel_rfl) (by kernel_rfl) (by kernel_rfl) (fun _ _ _ h => h.elim) (Or.inr ⟨by rfl, rfl⟩) hS0.out ?_
  simp only [Act.put, List.setIfInBounds_toArray, List.set_cons_zero, List.set_cons_succ]
  refine wpAnyH_take (i := 13) (oi := { dst := some 20, op := Op.pick (Operand.tmp 13) (Operand.tmp 19) (Operand.const (Value.bool false)), type := 4, pos := "proposal.go:28", after := #[{ on := 6, ground := Ground.data }, { on := 12, ground := Ground.data }], guard := none }) (v := .bool false) rfl (by kernel_rfl) (by kernel_rfl) (by kernel_rfl) (fun _ _ _ h => h.elim) (Or.inl ⟨by rfl, ?y8⟩) hS0.out ?_
  case y8 =>
    intro V hV
    go_simp
  simp only [Act.put, List.setIfInBounds_toArray, List.set_cons_zero, List.set_cons_succ]
  refine wpAnyH_take (i := 14) (oi := { dst := some 6, op := Op.assign (Operand.tmp 20), type := 4, pos := "proposal.go:28", after := #[{ on := 13, ground := Ground.data }, { on := 6, ground := Ground.chain }, { on := 0, ground := Ground.phase }, { on := 1, ground := Ground.phase }, { on := 2, ground := Ground.phase }, { on := 3, ground := Ground.phase }, { on := 4, ground := Ground.phase }, { on := 5, ground := Ground.phase }, { on := 6, ground := Ground.phase }, { on := 7, ground := Ground.phase }, { on := 8, ground := Ground.phase }, { on := 9, ground := Ground.phase }, { on := 10, ground := Ground.phase }, { on := 11, ground := Ground.phase }, { on := 12, ground := Ground.phase }, { on := 13, ground := Ground.phase }], guard := none }) (v := .bool false) rfl (by kernel_rfl) (by kernel_rfl) (by kernel_rfl) (fun _ _ _ h => h.elim) (Or.inl ⟨by rfl, ?y9⟩) hS0.out ?_
  case y9 =>
    intro V hV
    go_simp
  simp only [Act.put, List.setIfInBounds_toArray, List.set_cons_zero, List.set_cons_succ]
  refine wpAnyH_done (by kernel_rfl) ?_ _
  exact hQ V0 hS0.out
#print axioms isof0
/-- is a proposal of this channel and this patch? -/
def isOfB (ch : BA) (h : Hs) (p : Pr) : Bool := decide (p.channel = ch) && decide (p.patch = h)
set_option maxRecDepth 100000 in
theorem isOf_is {w : World} {g i : Nat} {p : Pr} (hg : g < w.heap.size) (g1 : w.cell? ⟨g, i * 36 + 1, none⟩ = some (.string p.channel)) (g2 : w.rangeAt g (i * 36 + 2) (U p.patch)) (hl : p.patch.length = 32) (ch : BA) (h : Hs) (hh : h.length = 32) :
    Calls Try.prog 47 #[.pointer (some ⟨g, i * 36, none⟩), .string ch, .agg (U h).toArray] w fun e w' => e = .returned (.bool (isOfB ch h p)) ∧ Below w.heap.size w w' := by
  obtain ⟨L, hL⟩ : ∃ L, U h = L := ⟨_, rfl⟩
  obtain ⟨o, ho⟩ : ∃ o, i * 36 = o := ⟨_, rfl⟩
  rw [ho] at g1 g2 ⊢
  obtain ⟨W, hW⟩ : ∃ W, w.alloc (.cells L.toArray 32) = W := ⟨_, rfl⟩
  have hB : Below w.heap.size w W := by rw [← hW]; exact below_al _ _
  obtain ⟨q, hq⟩ : ∃ q, w.heap.size = q := ⟨_, rfl⟩
  have hq0 : W.rangeAt q 0 (U h) := by rw [← hq, ← hW, hL]; exact range_new _ _ _
  have HL : Hid (g < W.heap.size ∧ q < W.heap.size ∧ W.rangeAt g (o + 2) (U p.patch) ∧ W.rangeAt q 0 (U h) ∧ p.patch.length = 32 ∧ h.length = 32) :=
    ⟨Nat.lt_of_lt_of_le hg hB.size, by rw [← hq, ← hW]; simp, fun j v hj => (hB.cell (p := ⟨g, o + 2 + j, none⟩) hg).trans (g2 j v hj), hq0, hl, hh⟩
  have g1' : W.cell? ⟨g, o + 1, none⟩ = some (.string p.channel) := (hB.cell (p := ⟨g, o + 1, none⟩) hg).trans g1
  have HB : Hid (Below w.heap.size w W) := hB
  obtain ⟨r, hr⟩ : ∃ r, decide (p.patch = h) = r := ⟨_, rfl⟩
  have HR : Hid (decide (p.patch = h) = r) := hr
  unfold isOfB
  rw [hr, hL]
  clear hB hq0 g1 g2 hg hl hh hr hL ho
  cases hch : (p.channel.toList == ch.toList)
  · have HE : Hid (decide (p.channel = ch) = false) := by show _ = _; rw [← eq_iff]; exact hch
    go_enter Try.func47, Try.ntmps47
    go_wp2_with fail
    refine isof0 (p := p) HL g1' hch HR ?_
    intro V hV
    go_wp2_with fail
    go_ret
    exact ⟨by rw [HE.out]; rfl, below_tr HB.out hV⟩
  · have HE : Hid (decide (p.channel = ch) = true) := by show _ = _; rw [← eq_iff]; exact hch
    go_enter Try.func47, Try.ntmps47
    go_wp2_with fail
    refine isof1 (p := p) HL g1' hch HR ?_
    intro V hV
    go_wp2_with fail
    go_ret
    exact ⟨by rw [HE.out]; rfl, below_tr HB.out hV⟩
#print axioms isOf_is
set_option maxRecDepth 100000 in
set_option maxHeartbeats 4000000 in
theorem clos46 {Q : Exit → Act → World → Prop} {x4 x5 x6 x7 x8 x9 x10 x11 x12 x13 x14 x15 : Value} {ds : List Deferred} {A : World} {b g n c i k1 k2 k3 : Nat} {ch : BA} {h : Hs} {r : Bool}
    (HL : Hid (k1 < A.heap.size ∧ b < A.heap.size ∧ k2 < A.heap.size ∧ k3 < A.heap.size ∧ A.rangeAt k3 0 (U h) ∧ h.length = 32)) (c1 : A.cell? ⟨k1, 0, none⟩ = some (.pointer (some ⟨b, 0, none⟩))) (c2 : A.cell? ⟨b, 1, none⟩ = some (.slice (some ⟨g, 0, none⟩) n c)) (c3 : A.cell? ⟨k2, 0, none⟩ = some (.string ch)) (q1 : (i : Int) + 1 - 1 = i) (q2 : (i : Int) ≤ 1000) (q3 : (i : Int) < n) (q4 : i < n) (hcall : Hid (∀ V, Below A.heap.size A V → Calls Try.prog 47 #[.pointer (some ⟨g, i * 36, none⟩), .string ch, .agg (U h).toArray] V fun e V1 => e = .returned (.bool r) ∧ Below V.heap.size V V1))
    (hQ : ∀ V1, Below A.heap.size A V1 → Q .normal { tmps := #[iv ((i : Int) + 1), .pointer (some ⟨k1, 0, none⟩), .pointer (some ⟨k2, 0, none⟩), .pointer (some ⟨k3, 0, none⟩), x4, .bool r, .pointer (some ⟨b, 0, none⟩), .pointer (some ⟨b, 0, none⟩), .pointer (some ⟨b, 1, none⟩), .slice (some ⟨g, 0, none⟩) n c, iv ((i : Int) + 1), iv (i : Int), .pointer (some ⟨g, i * 36, none⟩), .string ch, .agg (U h).toArray, .bool r], defers := ds } V1) :
    (Code.region 1 #[{ dst := some 6, op := Op.load 25 (Operand.tmp 1), type := 25, pos := "review.go:47", after := #[], guard := none }, { dst := some 7, op := Op.nilCheck (Operand.tmp 6), type := 0, pos := "review.go:47", after := #[{ on := 0, ground := Ground.data }], guard := none }, { dst := some 8, op := Op.fieldAddr 70 (Operand.tmp 7) 1, type := 0, pos := "review.go:47", after := #[{ on := 1, ground := Ground.data }], guard := none }, { dst := some 9, op := Op.load 68 (Operand.tmp 8), type := 68, pos := "review.go:47", after := #[{ on := 2, ground := Ground.data }], guard := none }, { dst := some 10, op := Op.move (Operand.tmp 0), type := 3, pos := "review.go:47", after := #[], guard := none }, { dst := some 11, op := Op.binOp BinOp.sub 3 (Operand.tmp 10) (Operand.const (Value.int IntKind.i64 1)) 3, type := 3, pos := "review.go:47", after := #[{ on := 4, ground := Ground.data }], guard := none }, { dst := some 12, op := Op.indexAddr 68 (Operand.tmp 9) (Operand.tmp 11), type := 0, pos := "review.go:47", after := #[{ on := 3, ground := Ground.data }, { on := 5, ground := Ground.data }], guard := none }, { dst := some 13, op := Op.load 9 (Operand.tmp 2), type := 9, pos := "review.go:47", after := #[], guard := none }, { dst := some 14, op := Op.load 32 (Operand.tmp 3), type := 32, pos := "review.go:47", after := #[], guard := none }, { dst := some 15, op := Op.call { callee := Callee.value (Operand.func 47), args := #[Operand.tmp 12, Operand.tmp 13, Operand.tmp 14], argTypes := #[87, 9, 32] }, type := 4, pos := "review.go:47", after := #[{ on := 6, ground := Ground.data }, { on := 7, ground := Ground.data }, { on := 8, ground := Ground.data }], guard := none }, { dst := some 5, op := Op.assign (Operand.tmp 15), type := 4, pos := "review.go:47", after := #[{ on := 9, ground := Ground.data }, { on := 9, ground := Ground.chain }, { on := 0, ground := Ground.phase }, { on := 1, ground := Ground.phase }, { on := 2, ground := Ground.phase }, { on := 3, ground := Ground.phase }, { on := 4, ground := Ground.phase }, { on := 5, ground := Ground.phase }, { on := 6, ground := Ground.phase }, { on := 7, ground := Ground.phase }, { on := 8, ground := Ground.phase }, { on := 9, ground := Ground.phase }], guard := none }] true).wp Try.prog Q { tmps := #[iv ((i : Int) + 1), .pointer (some ⟨k1, 0, none⟩), .pointer (some ⟨k2, 0, none⟩), .pointer (some ⟨k3, 0, none⟩), x4, x5, x6, x7, x8, x9, x10, x11, x12, x13, x14, x15], defers := ds } A := by
  refine Code.wp_mono (Q := fun x a' w' => match x with | .normal => Q .normal a' w' | _ => False) (by intro x a' w' h; cases x <;> first | exact h | exact h.elim) ?_
  refine wp_region_held (S := fun V => Below A.heap.size A V) (by kernel_rfl) ?_
  have hS0 : Hid (Below A.heap.size A A.drew) := below_drew0 A
  change wpAnyH Try.prog .any _ _ (fun V => Below A.heap.size A V) 11 (Array.replicate 11 false) _ A.drew
  obtain ⟨V0, hV0⟩ : ∃ V0, A.drew = V0 := ⟨_, rfl⟩
  rw [hV0]
  rw [hV0] at hS0
  clear hV0
  refine wpAnyH_take (i := 0) (oi := { dst := some 6, op := Op.load 25 (Operand.tmp 1), type := 25, pos := "review.go:47", after := #[], guard := none }) (v := .pointer (some ⟨b, 0, none⟩)) rfl (by kernel_rfl) (by kernel_rfl) (by kernel_rfl) (fun _ _ _ h => h.elim) (Or.inl ⟨by rfl, ?y1⟩) hS0.out ?_
  case y1 =>
    intro V hV
    have hc : V.cell? ⟨k1, 0, none⟩ = some (.pointer (some ⟨b, 0, none⟩)) := ((show Below A.heap.size A V from hV).cell (p := ⟨k1, 0, none⟩) HL.out.1).trans c1
    go_simp
  simp only [Act.put, List.setIfInBounds_toArray, List.set_cons_zero, List.set_cons_succ]
  refine wpAnyH_take (i := 1) (oi := { dst := some 7, op := Op.nilCheck (Operand.tmp 6), type := 0, pos := "review.go:47", after := #[{ on := 0, ground := Ground.data }], guard := none }) (v := .pointer (some ⟨b, 0, none⟩)) rfl (by kernel_rfl) (by kernel_rfl) (by kernel_rfl) (fun _ _ _ h => h.elim) (Or.inl ⟨by rfl, ?y2⟩) hS0.out ?_
  case y2 =>
    intro V hV
    go_simp
  simp only [Act.put, List.setIfInBounds_toArray, List.set_cons_zero, List.set_cons_succ]
  refine wpAnyH_take (i := 2) (oi := { dst := some 8, op := Op.fieldAddr 70 (Operand.tmp 7) 1, type := 0, pos := "review.go:47", after := #[{ on := 1, ground := Ground.data }], guard := none }) (v := .pointer (some ⟨b, 1, none⟩)) rfl (by kernel_rfl) (by kernel_rfl) (by kernel_rfl) (fun _ _ _ h => h.elim) (Or.inl ⟨by rfl, ?y3⟩) hS0.out ?_
  case y3 =>
    intro V hV
    go_simp
  simp only [Act.put, List.setIfInBounds_toArray, List.set_cons_zero, List.set_cons_succ]
  refine wpAnyH_take (i := 3) (oi := { dst := some 9, op := Op.load 68 (Operand.tmp 8), type := 68, pos := "review.go:47", after := #[{ on := 2, ground := Ground.data }], guard := none }) (v := .slice (some ⟨g, 0, none⟩) n c) rfl (by kernel_rfl) (by kernel_rfl) (by kernel_rfl) (fun _ _ _ h => h.elim) (Or.inl ⟨by rfl, ?y4⟩) hS0.out ?_
  case y4 =>
    intro V hV
    have hc : V.cell? ⟨b, 1, none⟩ = some (.slice (some ⟨g, 0, none⟩) n c) := ((show Below A.heap.size A V from hV).cell (p := ⟨b, 1, none⟩) HL.out.2.1).trans c2
    go_simp
  simp only [Act.put, List.setIfInBounds_toArray, List.set_cons_zero, List.set_cons_succ]
  refine wpAnyH_take (i := 4) (oi := { dst := some 10, op := Op.move (Operand.tmp 0), type := 3, pos := "review.go:47", after := #[], guard := none }) (v := iv ((i : Int) + 1)) rfl (by kernel_rfl) (by kernel_rfl) (by kernel_rfl) (fun _ _ _ h => h.elim) (Or.inl ⟨by rfl, ?y5⟩) hS0.out ?_
  case y5 =>
    intro V hV
    go_simp
  simp only [Act.put, List.setIfInBounds_toArray, List.set_cons_zero, List.set_cons_succ]
  refine wpAnyH_take (i := 5) (oi := { dst := some 11, op := Op.binOp BinOp.sub 3 (Operand.tmp 10) (Operand.const (Value.int IntKind.i64 1)) 3, type := 3, pos := "review.go:47", after := #[{ on := 4, ground := Ground.data }], guard := none }) (v := iv (i : Int)) rfl (by kernel_rfl) (by kernel_rfl) (by kernel_rfl) (fun _ _ _ h => h.elim) (Or.inl ⟨by rfl, ?y6⟩) hS0.out ?_
  case y6 =>
    intro V hV
    have hcmp := q1
    have hw : IntKind.i64.wrap (i : Int) = i := by rw [IntKind.wrap_i64] <;> omega
    go_simp
  simp only [Act.put, List.setIfInBounds_toArray, List.set_cons_zero, List.set_cons_succ]
  refine wpAnyH_take (i := 6) (oi := { dst := some 12, op := Op.indexAddr 68 (Operand.tmp 9) (Operand.tmp 11), type := 0, pos := "review.go:47", after := #[{ on := 3, ground := Ground.data }, { on := 5, ground := Ground.data }], guard := none }) (v := .pointer (some ⟨g, i * 36, none⟩)) rfl (by kernel_rfl) (by kernel_rfl) (by kernel_rfl) (fun _ _ _ h => h.elim) (Or.inl ⟨by rfl, ?y7⟩) hS0.out ?_
  case y7 =>
    intro V hV
    have hcmp := q3
    have hcmp2 := q4
    go_simp
  simp only [Act.put, List.setIfInBounds_toArray, List.set_cons_zero, List.set_cons_succ]
  refine wpAnyH_take (i := 7) (oi := { dst := some 13, op := Op.load 9 (Operand.tmp 2), type := 9, pos := "review.go:47", after := #[], guard := none }) (v := .string ch) rfl (by kernel_rfl) (by kernel_rfl) (by kernel_rfl) (fun _ _ _ h => h.elim) (Or.inl ⟨by rfl, ?y8⟩) hS0.out ?_
  case y8 =>
    intro V hV
    have hc : V.cell? ⟨k2, 0, none⟩ = some (.string ch) := ((show Below A.heap.size A V from hV).cell (p := ⟨k2, 0, none⟩) HL.out.2.2.1).trans c3
    go_simp
  simp only [Act.put, List.setIfInBounds_toArray, List.set_cons_zero, List.set_cons_succ]
  refine wpAnyH_take (i := 8) (oi := { dst := some 14, op := Op.load 32 (Operand.tmp 3), type := 32, pos := "review.go:47", after := #[], guard := none }) (v := .agg (U h).toArray) rfl (by kernel_rfl) (by kernel_rfl) (by kernel_rfl) (fun _ _ _ h => h.elim) (yieldsIf_load_mid (by rfl) _ _ rfl _ _ rfl (U h) _ (fun V hV => rangeAt_same (HL.out.2.2.2.2.1) ((show Below A.heap.size A V from hV).block _ (HL.out.2.2.2.1))) Try.underlying32 rfl (info32 _ HL.out.2.2.2.2.2)) hS0.out ?_
  simp only [Act.put, List.setIfInBounds_toArray, List.set_cons_zero, List.set_cons_succ]
  refine wpAnyH_ready (rs := [9]) (by kernel_rfl) (by simp) (AllReadyH.cons (i := 9) (o := { dst := some 15, op := Op.call { callee := Callee.value (Operand.func 47), args := #[Operand.tmp 12, Operand.tmp 13, Operand.tmp 14], argTypes := #[87, 9, 32] }, type := 4, pos := "review.go:47", after := #[{ on := 6, ground := Ground.data }, { on := 7, ground := Ground.data }, { on := 8, ground := Ground.data }], guard := none }) rfl ?_ AllReadyH.nil)
  · intro K1 hK1
    rw [if_pos (by rfl)]
    have HC1 := hcall.out V0 hS0.out
    go_wp2_with fail
    refine HC1.mono ?_
    rintro e V1 ⟨rfl, hb1⟩
    dsimp only
    clear HC1
    have hS1 : Hid (Below A.heap.size A V1) := hS0.out.trans (hb1.mono hS0.out.size)
    clear hb1
    refine hK1.out _ _ hS1.out ?_
    clear hK1
    intro _
    try simp only [Act.put, List.setIfInBounds_toArray, List.set_cons_zero, List.set_cons_succ]
    refine wpAnyH_take (i := 10) (oi := { dst := some 5, op := Op.assign (Operand.tmp 15), type := 4, pos := "review.go:47", after := #[{ on := 9, ground := Ground.data }, { on := 9, ground := Ground.chain }, { on := 0, ground := Ground.phase }, { on := 1, ground := Ground.phase }, { on := 2, ground := Ground.phase }, { on := 3, ground := Ground.phase }, { on := 4, ground := Ground.phase }, { on := 5, ground := Ground.phase }, { on := 6, ground := Ground.phase }, { on := 7, ground := Ground.phase }, { on := 8, ground := Ground.phase }, { on := 9, ground := Ground.phase }], guard := none }) (v := .bool r) rfl (by kernel_rfl) (by kernel_rfl) (by kernel_rfl) (fun _ _ _ h => h.elim) (Or.inl ⟨by rfl, ?y9⟩) hS1.out ?_
    case y9 =>
      intro V hV
      go_simp
    simp only [Act.put, List.setIfInBounds_toArray, List.set_cons_zero, List.set_cons_succ]
    refine wpAnyH_done (by kernel_rfl) ?_ _
    exact hQ V1 hS1.out
#print axioms clos46
end Go.Proofs.Ytaecigpjcbjcbaa.Oct
