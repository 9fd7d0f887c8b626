/-
  Layer 12 (deps): webOf: a number put behind the row of one that is needed, whatever the order.
-/
import Derived.Test.YtijkpkcopjkhkaaWebReg1
namespace Go.Proofs.Ytijkpkcopjkhkaa.Oct
open Go.RowKit
set_option linter.unusedSimpArgs false
set_option linter.unusedVariables false

section
variable {o : Oper} {a : Act} {w : World} {K : Act → World → Prop} {Q : Exit → Act → World → Prop}
theorem run_bs56 (m : Nat) (W : World) : (Instr.buildSlice 56 1 #[(0, .int .i64 (m : Int))]).run Try.prog W = .ok (.slice (some ⟨W.heap.size, 0, none⟩) 1 1) (W.alloc (.cells #[.int .i64 (m : Int)] 3)) := by
  obtain ⟨i, hi, hs1, hby, z, hz, hzs⟩ := info3
  have hz' : (Try.prog.info? 3).map (·.zero) = some (some (.int .i64 0)) := by kernel_rfl
  rw [hi] at hz'
  simp at hz'
  simp [Instr.buildSlice, run_underlying Try.underlying56, sizeOf, typeInfo, hi, hs1, zeroValue, hz', Instr.fill, Value.cells]
  have e : ∀ X : Array Value, X.size = 1 → X.setIfInBounds 0 (.int .i64 (m : Int)) = #[.int .i64 (m : Int)] := by
    intro X hX
    apply Array.ext
    · simp [hX]
    · intro j h1 h2
      obtain rfl : j = 0 := by simp at h2; omega
      simp
  simp [newRow, e]
theorem wp_bs56 (x : Operand) (hop : o.op = Op.buildSlice 56 1 #[(0, x)]) (m : Nat) (hx : a.eval x = .int .i64 (m : Int))
    (hK : K (a.put o.dst (.slice (some ⟨w.heap.size, 0, none⟩) 1 1)) (w.alloc (.cells #[.int .i64 (m : Int)] 3))) : Oper.wp Try.prog o a w K Q := by
  unfold Oper.wp execOp
  simp [hop, hx, run_bs56 m, Result.andThen]
  exact hK
theorem wp_appI (s x : Operand) (hop : o.op = Op.call { callee := Callee.builtin Builtin.append, args := #[s, x], argTypes := #[56, 56] }) (B : Nat) (v : Value) (xs : List Nat) (g y : Nat) (hv : a.eval s = v) (hx : a.eval x = .slice (some ⟨g, 0, none⟩) 1 1)
    (hown : w.ownsRow B 3 1 v xs.length (IV xs)) (hc : w.cell? ⟨g, 0, none⟩ = some (.int .i64 (y : Int))) (hn : xs.length ≤ 1000000) (hB : B ≤ w.heap.size)
    (hK : ∀ v' w', w'.ownsRow B 3 1 v' (xs.length + 1) (IV (xs ++ [y])) → w.grownBy w' v.ownBlock → (v'.ownBlock = v.ownBlock ∨ v'.ownBlock = some w.heap.size) → K (a.put o.dst v') w') : Oper.wp Try.prog o a w K Q := by
  obtain ⟨v', w', hrun, r1, r2, r3⟩ := run_appI w B o.type v xs g y hown hc hn hB
  unfold Oper.wp execOp
  simp only [hop, resolve, invoke, builtin, Sem.run_bind, Sem.run_pure, Result.andThen_ok, List.map_toArray, List.map_cons, List.map_nil, hv, hx, hrun]
  exact hK v' w' r1 r2 r3
theorem own_slice {B e sz n : Nat} {v : Value} {xs : List Value} (h : w.ownsRow B e sz v n xs) : ∃ p c, v = .slice p n c := by
  rcases h.2 with ⟨rfl, rfl⟩ | ⟨g, cap, cur, rfl, _⟩
  · exact ⟨_, _, rfl⟩
  · exact ⟨_, _, rfl⟩
end

set_option maxRecDepth 100000 in
set_option maxHeartbeats 2000000 in
theorem web_region16 {Q : Exit → Act → World → Prop} {x0 x1 x2 x5 x6 x7 x8 x10 x12 x13 x14 x15 x16 x17 x18 x19 x20 x21 x22 x23 x24 x25 x26 x27 x28 x29 x30 x31 x32 x33 x34 x35 x36 x37 x38 x39 x40 x41 x42 x43 x44 x45 x46 x47 x48 x49 x50 x51 x52 x53 x54 x55 x56 x57 x58 x59 x60 x61 x62 x63 x64 x65 x66 x67 x68 x69 x70 x71 x72 x73 x74 x75 x76 x77 x78 x79 : Value} {ds : List Deferred} {A : World} {gs ga n bm k m hb B : Nat} {d : Hs} {v : Value} {xs : List Nat} {L : List Value}
    (hl : d.length = 32) (hk : (k : Int) < (n : Int)) (hkL : L[k]? = some v) (hbl : Hid (Blk A ga 56 L)) (hown : Hid (A.ownsRow B 3 1 v xs.length (IV xs))) (hx : Hid (xs.length ≤ 1000000)) (hB : Hid (B ≤ A.heap.size)) (hS13 : Hid ((A.drew.alloc (.cells #[.int .i64 (m : Int)] 3)).cell? ⟨gs, 1, none⟩ = some (.slice (some ⟨ga, 0, none⟩) n n) ∧ (A.drew.alloc (.cells #[.int .i64 (m : Int)] 3)).rangeAt hb 0 (U d) ∧ (Instr.lookup 68 (.map (some bm)) (.agg (U d).toArray) false).run Try.prog (A.drew.alloc (.cells #[.int .i64 (m : Int)] 3)) = .ok (.int .i64 (k : Int)) (A.drew.alloc (.cells #[.int .i64 (m : Int)] 3)))) (hS14 : Hid (∀ w1, (A.drew.alloc (.cells #[.int .i64 (m : Int)] 3)).grownBy w1 v.ownBlock → (w1.cell? ⟨gs, 1, none⟩ = some (.slice (some ⟨ga, 0, none⟩) n n) ∧ w1.rangeAt hb 0 (U d) ∧ (Instr.lookup 68 (.map (some bm)) (.agg (U d).toArray) false).run Try.prog w1 = .ok (.int .i64 (k : Int)) w1) ∧ Blk w1 ga 56 L ∧ ∀ u, ((w1.setCell ⟨ga, k, none⟩ u).cell? ⟨gs, 1, none⟩ = some (.slice (some ⟨ga, 0, none⟩) n n) ∧ (w1.setCell ⟨ga, k, none⟩ u).rangeAt hb 0 (U d) ∧ (Instr.lookup 68 (.map (some bm)) (.agg (U d).toArray) false).run Try.prog (w1.setCell ⟨ga, k, none⟩ u) = .ok (.int .i64 (k : Int)) (w1.setCell ⟨ga, k, none⟩ u)))) (hcap : n ≤ 100000) (hS : A.drew.cell? ⟨gs, 1, none⟩ = some (.slice (some ⟨ga, 0, none⟩) n n) ∧ A.drew.rangeAt hb 0 (U d) ∧ (Instr.lookup 68 (.map (some bm)) (.agg (U d).toArray) false).run Try.prog A.drew = .ok (.int .i64 (k : Int)) A.drew)
    (hQ : Hid (∀ p1 c1 w1, w1.ownsRow B 3 1 (.slice p1 (xs.length + 1) c1) (xs.length + 1) (IV (xs ++ [m])) → (A.drew.alloc (.cells #[.int .i64 (m : Int)] 3)).grownBy w1 v.ownBlock → ((Value.slice p1 (xs.length + 1) c1).ownBlock = v.ownBlock ∨ (Value.slice p1 (xs.length + 1) c1).ownBlock = some (A.heap.size + 1)) → Q .normal { tmps := #[x0, x1, x2, .pointer (some ⟨gs, 0, none⟩), .map (some bm), x5, x6, x7, x8, .int .i64 (m : Int), x10, .pointer (some ⟨hb, 0, none⟩), x12, x13, x14, x15, x16, x17, x18, x19, x20, x21, x22, x23, x24, x25, x26, x27, x28, x29, x30, x31, x32, x33, x34, x35, x36, x37, x38, x39, x40, x41, x42, x43, x44, x45, x46, x47, x48, x49, x50, x51, x52, x53, x54, x55, x56, x57, x58, x59, x60, .pointer (some ⟨gs, 1, none⟩), .slice (some ⟨ga, 0, none⟩) n n, .map (some bm), .agg (U d).toArray, .int .i64 (k : Int), .pointer (some ⟨gs, 1, none⟩), .slice (some ⟨ga, 0, none⟩) n n, .map (some bm), .agg (U d).toArray, .int .i64 (k : Int), .pointer (some ⟨ga, k, none⟩), v, .int .i64 (m : Int), .slice (some ⟨A.heap.size, 0, none⟩) 1 1, .slice p1 (xs.length + 1) c1, .pointer (some ⟨ga, k, none⟩), x77, x78, x79], defers := ds } (w1.setCell ⟨ga, k, none⟩ (.slice p1 (xs.length + 1) c1)))) :
    (Code.region 16 #[{ dst := some 61, op := Op.fieldAddr 58 (Operand.tmp 3) 1, type := 0, pos := "order.go:43", after := #[], guard := none }, { dst := some 62, op := Op.load 55 (Operand.tmp 61), type := 55, pos := "order.go:43", after := #[{ on := 0, ground := Ground.data }], guard := none }, { dst := some 63, op := Op.move (Operand.tmp 4), type := 68, pos := "order.go:43", after := #[], guard := none }, { dst := some 64, op := Op.load 34 (Operand.tmp 11), type := 34, pos := "order.go:43", after := #[], guard := none }, { dst := some 65, op := Op.lookup 68 (Operand.tmp 63) (Operand.tmp 64) false, type := 3, pos := "order.go:43", after := #[{ on := 2, ground := Ground.data }, { on := 3, ground := Ground.data }], guard := none }, { dst := some 66, op := Op.fieldAddr 58 (Operand.tmp 3) 1, type := 0, pos := "order.go:43", after := #[], guard := none }, { dst := some 67, op := Op.load 55 (Operand.tmp 66), type := 55, pos := "order.go:43", after := #[{ on := 5, ground := Ground.data }], guard := none }, { dst := some 68, op := Op.move (Operand.tmp 4), type := 68, pos := "order.go:43", after := #[], guard := none }, { dst := some 69, op := Op.load 34 (Operand.tmp 11), type := 34, pos := "order.go:43", after := #[], guard := none }, { dst := some 70, op := Op.lookup 68 (Operand.tmp 68) (Operand.tmp 69) false, type := 3, pos := "order.go:43", after := #[{ on := 7, ground := Ground.data }, { on := 8, ground := Ground.data }], guard := none }, { dst := some 71, op := Op.indexAddr 55 (Operand.tmp 67) (Operand.tmp 70), type := 0, pos := "order.go:43", after := #[{ on := 6, ground := Ground.data }, { on := 9, ground := Ground.data }], guard := none }, { dst := some 72, op := Op.load 56 (Operand.tmp 71), type := 56, pos := "order.go:43", after := #[{ on := 10, ground := Ground.data }], guard := none }, { dst := some 73, op := Op.move (Operand.tmp 9), type := 3, pos := "order.go:43", after := #[], guard := none }, { dst := some 74, op := Op.buildSlice 56 1 #[(0, Operand.tmp 73)], type := 56, pos := "order.go:43", after := #[{ on := 12, ground := Ground.data }], guard := none }, { dst := some 75, op := Op.call { callee := Callee.builtin Builtin.append, args := #[Operand.tmp 72, Operand.tmp 74], argTypes := #[56, 56] }, type := 56, pos := "order.go:43", after := #[{ on := 11, ground := Ground.data }, { on := 13, ground := Ground.data }], guard := none }, { dst := some 76, op := Op.indexAddr 55 (Operand.tmp 62) (Operand.tmp 65), type := 0, pos := "order.go:43", after := #[{ on := 1, ground := Ground.data }, { on := 4, ground := Ground.data }, { on := 0, ground := Ground.phase }, { on := 1, ground := Ground.phase }, { on := 2, ground := Ground.phase }, { on := 3, ground := Ground.phase }, { on := 4, ground := Ground.phase }, { on := 5, ground := Ground.phase }, { on := 6, ground := Ground.phase }, { on := 7, ground := Ground.phase }, { on := 8, ground := Ground.phase }, { on := 9, ground := Ground.phase }, { on := 10, ground := Ground.phase }, { on := 11, ground := Ground.phase }, { on := 12, ground := Ground.phase }, { on := 13, ground := Ground.phase }, { on := 14, ground := Ground.phase }], guard := none }, { dst := none, op := Op.store 56 (Operand.tmp 76) (Operand.tmp 75), type := 0, pos := "order.go:43", after := #[{ on := 15, ground := Ground.data }, { on := 14, ground := Ground.data }, { on := 14, ground := Ground.chain }, { on := 0, ground := Ground.phase }, { on := 1, ground := Ground.phase }, { on := 2, ground := Ground.phase }, { on := 3, ground := Ground.phase }, { on := 4, ground := Ground.phase }, { on := 5, ground := Ground.phase }, { on := 6, ground := Ground.phase }, { on := 7, ground := Ground.phase }, { on := 8, ground := Ground.phase }, { on := 9, ground := Ground.phase }, { on := 10, ground := Ground.phase }, { on := 11, ground := Ground.phase }, { on := 12, ground := Ground.phase }, { on := 13, ground := Ground.phase }, { on := 14, ground := Ground.phase }], guard := none }] true).wp Try.prog Q { tmps := #[x0, x1, x2, .pointer (some ⟨gs, 0, none⟩), .map (some bm), x5, x6, x7, x8, .int .i64 (m : Int), x10, .pointer (some ⟨hb, 0, none⟩), x12, x13, x14, x15, x16, x17, x18, x19, x20, x21, x22, x23, x24, x25, x26, x27, x28, x29, x30, x31, x32, x33, x34, x35, x36, x37, x38, x39, x40, x41, x42, x43, x44, x45, x46, x47, x48, x49, x50, x51, x52, x53, x54, x55, x56, x57, x58, x59, x60, x61, x62, x63, x64, x65, x66, x67, x68, x69, x70, x71, x72, x73, x74, x75, x76, x77, x78, x79], defers := ds } A := by
  refine Code.wp_mono (Q := fun x a' w' => match x with | .normal => Q .normal a' w' | _ => False) (by intro x a' w' h; cases x <;> first | exact h | exact h.elim) ?_
  obtain ⟨S, hSd⟩ : ∃ S : World → Prop, S = fun W => W.cell? ⟨gs, 1, none⟩ = some (.slice (some ⟨ga, 0, none⟩) n n) ∧ W.rangeAt hb 0 (U d) ∧ (Instr.lookup 68 (.map (some bm)) (.agg (U d).toArray) false).run Try.prog W = .ok (.int .i64 (k : Int)) W := ⟨_, rfl⟩
  refine wp_region_held (S := S) (by kernel_rfl) ?_
  have hS' : S A.drew := by rw [hSd]; exact hS
  have hS0 : Hid (A.drew.cell? ⟨gs, 1, none⟩ = some (.slice (some ⟨ga, 0, none⟩) n n) ∧ A.drew.rangeAt hb 0 (U d) ∧ (Instr.lookup 68 (.map (some bm)) (.agg (U d).toArray) false).run Try.prog A.drew = .ok (.int .i64 (k : Int)) A.drew) := hS
  clear hS
  change wpAnyH Try.prog .any _ _ S 17 (Array.replicate 17 false) _ A.drew
  refine wpAnyH_take (i := 0) (oi := { dst := some 61, op := Op.fieldAddr 58 (Operand.tmp 3) 1, type := 0, pos := "order.go:43", after := #[], guard := none }) (v := .pointer (some ⟨gs, 1, none⟩)) rfl (by kernel_rfl) (by kernel_rfl) (by kernel_rfl) (fun _ _ _ h => h.elim) (Or.inl ⟨by rfl, ?y0⟩) hS' ?_
  case y0 =>
    intro W hW
    rw [hSd] at hW; obtain ⟨s1, s2, s3⟩ := hW
    go_simp
  simp only [Act.put, List.setIfInBounds_toArray, List.set_cons_zero, List.set_cons_succ]
  refine wpAnyH_take (i := 1) (oi := { dst := some 62, op := Op.load 55 (Operand.tmp 61), type := 55, pos := "order.go:43", after := #[{ on := 0, ground := Ground.data }], guard := none }) (v := .slice (some ⟨ga, 0, none⟩) n n) rfl (by kernel_rfl) (by kernel_rfl) (by kernel_rfl) (fun _ _ _ h => h.elim) (Or.inl ⟨by rfl, ?y1⟩) hS' ?_
  case y1 =>
    intro W hW
    rw [hSd] at hW; obtain ⟨s1, s2, s3⟩ := hW
    go_simp
  simp only [Act.put, List.setIfInBounds_toArray, List.set_cons_zero, List.set_cons_succ]
  refine wpAnyH_take (i := 2) (oi := { dst := some 63, op := Op.move (Operand.tmp 4), type := 68, pos := "order.go:43", after := #[], guard := none }) (v := .map (some bm)) rfl (by kernel_rfl) (by kernel_rfl) (by kernel_rfl) (fun _ _ _ h => h.elim) (Or.inl ⟨by rfl, ?y2⟩) hS' ?_
  case y2 =>
    intro W hW
    rw [hSd] at hW; obtain ⟨s1, s2, s3⟩ := hW
    go_simp
  simp only [Act.put, List.setIfInBounds_toArray, List.set_cons_zero, List.set_cons_succ]
  refine wpAnyH_take (i := 3) (oi := { dst := some 64, op := Op.load 34 (Operand.tmp 11), type := 34, pos := "order.go:43", after := #[], guard := none }) (v := .agg (U d).toArray) rfl (by kernel_rfl) (by kernel_rfl) (by kernel_rfl) (fun _ _ _ h => h.elim) (yieldsIf_load_mid (by rfl) _ _ rfl _ _ rfl (U d) _ (fun W hW => by rw [hSd] at hW; obtain ⟨s1, s2, s3⟩ := hW; exact s2) Try.underlying34 rfl (info34 d hl)) hS' ?_
  simp only [Act.put, List.setIfInBounds_toArray, List.set_cons_zero, List.set_cons_succ]
  refine wpAnyH_take (i := 4) (oi := { dst := some 65, op := Op.lookup 68 (Operand.tmp 63) (Operand.tmp 64) false, type := 3, pos := "order.go:43", after := #[{ on := 2, ground := Ground.data }, { on := 3, ground := Ground.data }], guard := none }) (v := .int .i64 (k : Int)) rfl (by kernel_rfl) (by kernel_rfl) (by kernel_rfl) (fun _ _ _ h => h.elim) (Or.inl ⟨by rfl, ?y4⟩) hS' ?_
  case y4 =>
    intro W hW
    rw [hSd] at hW; obtain ⟨s1, s2, s3⟩ := hW
    go_simp
  simp only [Act.put, List.setIfInBounds_toArray, List.set_cons_zero, List.set_cons_succ]
  refine wpAnyH_take (i := 5) (oi := { dst := some 66, op := Op.fieldAddr 58 (Operand.tmp 3) 1, type := 0, pos := "order.go:43", after := #[], guard := none }) (v := .pointer (some ⟨gs, 1, none⟩)) rfl (by kernel_rfl) (by kernel_rfl) (by kernel_rfl) (fun _ _ _ h => h.elim) (Or.inl ⟨by rfl, ?y5⟩) hS' ?_
  case y5 =>
    intro W hW
    rw [hSd] at hW; obtain ⟨s1, s2, s3⟩ := hW
    go_simp
  simp only [Act.put, List.setIfInBounds_toArray, List.set_cons_zero, List.set_cons_succ]
  refine wpAnyH_take (i := 6) (oi := { dst := some 67, op := Op.load 55 (Operand.tmp 66), type := 55, pos := "order.go:43", after := #[{ on := 5, ground := Ground.data }], guard := none }) (v := .slice (some ⟨ga, 0, none⟩) n n) rfl (by kernel_rfl) (by kernel_rfl) (by kernel_rfl) (fun _ _ _ h => h.elim) (Or.inl ⟨by rfl, ?y6⟩) hS' ?_
  case y6 =>
    intro W hW
    rw [hSd] at hW; obtain ⟨s1, s2, s3⟩ := hW
    go_simp
  simp only [Act.put, List.setIfInBounds_toArray, List.set_cons_zero, List.set_cons_succ]
  refine wpAnyH_take (i := 7) (oi := { dst := some 68, op := Op.move (Operand.tmp 4), type := 68, pos := "order.go:43", after := #[], guard := none }) (v := .map (some bm)) rfl (by kernel_rfl) (by kernel_rfl) (by kernel_rfl) (fun _ _ _ h => h.elim) (Or.inl ⟨by rfl, ?y7⟩) hS' ?_
  case y7 =>
    intro W hW
    rw [hSd] at hW; obtain ⟨s1, s2, s3⟩ := hW
    go_simp
  simp only [Act.put, List.setIfInBounds_toArray, List.set_cons_zero, List.set_cons_succ]
  refine wpAnyH_take (i := 8) (oi := { dst := some 69, op := Op.load 34 (Operand.tmp 11), type := 34, pos := "order.go:43", after := #[], guard := none }) (v := .agg (U d).toArray) rfl (by kernel_rfl) (by kernel_rfl) (by kernel_rfl) (fun _ _ _ h => h.elim) (yieldsIf_load_mid (by rfl) _ _ rfl _ _ rfl (U d) _ (fun W hW => by rw [hSd] at hW; obtain ⟨s1, s2, s3⟩ := hW; exact s2) Try.underlying34 rfl (info34 d hl)) hS' ?_
  simp only [Act.put, List.setIfInBounds_toArray, List.set_cons_zero, List.set_cons_succ]
  refine wpAnyH_take (i := 9) (oi := { dst := some 70, op := Op.lookup 68 (Operand.tmp 68) (Operand.tmp 69) false, type := 3, pos := "order.go:43", after := #[{ on := 7, ground := Ground.data }, { on := 8, ground := Ground.data }], guard := none }) (v := .int .i64 (k : Int)) rfl (by kernel_rfl) (by kernel_rfl) (by kernel_rfl) (fun _ _ _ h => h.elim) (Or.inl ⟨by rfl, ?y9⟩) hS' ?_
  case y9 =>
    intro W hW
    rw [hSd] at hW; obtain ⟨s1, s2, s3⟩ := hW
    go_simp
  simp only [Act.put, List.setIfInBounds_toArray, List.set_cons_zero, List.set_cons_succ]
  refine wpAnyH_take (i := 10) (oi := { dst := some 71, op := Op.indexAddr 55 (Operand.tmp 67) (Operand.tmp 70), type := 0, pos := "order.go:43", after := #[{ on := 6, ground := Ground.data }, { on := 9, ground := Ground.data }], guard := none }) (v := .pointer (some ⟨ga, k, none⟩)) rfl (by kernel_rfl) (by kernel_rfl) (by kernel_rfl) (fun _ _ _ h => h.elim) (Or.inl ⟨by rfl, ?y10⟩) hS' ?_
  case y10 =>
    intro W hW
    rw [hSd] at hW; obtain ⟨s1, s2, s3⟩ := hW
    go_simp
  simp only [Act.put, List.setIfInBounds_toArray, List.set_cons_zero, List.set_cons_succ]
  refine wpAnyH_take (i := 12) (oi := { dst := some 73, op := Op.move (Operand.tmp 9), type := 3, pos := "order.go:43", after := #[], guard := none }) (v := .int .i64 (m : Int)) rfl (by kernel_rfl) (by kernel_rfl) (by kernel_rfl) (fun _ _ _ h => h.elim) (Or.inl ⟨by rfl, ?y12⟩) hS' ?_
  case y12 =>
    intro W hW
    rw [hSd] at hW; obtain ⟨s1, s2, s3⟩ := hW
    go_simp
  simp only [Act.put, List.setIfInBounds_toArray, List.set_cons_zero, List.set_cons_succ]
  refine wpAnyH_ready (rs := [11, 13]) (by kernel_rfl) (by simp) (AllReadyH.cons (i := 11) (o := { dst := some 72, op := Op.load 56 (Operand.tmp 71), type := 56, pos := "order.go:43", after := #[{ on := 10, ground := Ground.data }], guard := none }) rfl ?_ (AllReadyH.cons (i := 13) (o := { dst := some 74, op := Op.buildSlice 56 1 #[(0, Operand.tmp 73)], type := 56, pos := "order.go:43", after := #[{ on := 12, ground := Ground.data }], guard := none }) rfl ?_ AllReadyH.nil))
  · intro K1 hK1
    rw [if_pos (by rfl)]
    have hc0 : A.drew.cell? ⟨ga, k, none⟩ = some v := Blk.cell (w := A.drew) hbl.out hkL
    go_wp2_with fail
    refine hK1.out _ _ (by rw [hSd]; exact hS0) ?_
    clear hS' hK1
    intro hS'
    try simp only [Act.put, List.setIfInBounds_toArray, List.set_cons_zero, List.set_cons_succ]
    refine wpAnyH_ready (rs := [13]) (by kernel_rfl) (by simp) (AllReadyH.cons (i := 13) (o := { dst := some 74, op := Op.buildSlice 56 1 #[(0, Operand.tmp 73)], type := 56, pos := "order.go:43", after := #[{ on := 12, ground := Ground.data }], guard := none }) rfl ?_ AllReadyH.nil)
    intro K1 hK1
    rw [if_pos (by rfl)]
    refine wp_bs56 (.tmp 73) rfl m rfl ?_
    refine hK1.out _ _ (by rw [hSd]; exact hS13.out) ?_
    clear hS' hK1
    intro hS'
    try simp only [Act.put, List.setIfInBounds_toArray, List.set_cons_zero, List.set_cons_succ]
    refine wpAnyH_ready (rs := [14]) (by kernel_rfl) (by simp) (AllReadyH.cons (i := 14) (o := { dst := some 75, op := Op.call { callee := Callee.builtin Builtin.append, args := #[Operand.tmp 72, Operand.tmp 74], argTypes := #[56, 56] }, type := 56, pos := "order.go:43", after := #[{ on := 11, ground := Ground.data }, { on := 13, ground := Ground.data }], guard := none }) rfl ?_ AllReadyH.nil)
    intro K1 hK1
    rw [if_pos (by rfl)]
    have hc1 := (Blk.new A.drew #[.int .i64 (m : Int)] 3).cell (i := 0) (v := .int .i64 (m : Int)) rfl
    refine wp_appI (.tmp 72) (.tmp 74) rfl B v xs A.heap.size m rfl rfl (World.ownsRow.alloc (w := A.drew) hown.out _) hc1 hx.out (by have := hB.out; simp; omega) ?_
    intro v1 w1 r1 r2 r3
    have R1 : Hid _ := r1
    obtain ⟨p1, c1, rfl⟩ := own_slice R1.out
    have R2 : Hid ((A.drew.alloc (.cells #[.int .i64 (m : Int)] 3)).grownBy w1 v.ownBlock) := r2
    have R3 : Hid ((Value.slice p1 (xs.length + 1) c1).ownBlock = v.ownBlock ∨ (Value.slice p1 (xs.length + 1) c1).ownBlock = some (A.heap.size + 1)) := show _ ∨ _ from by simpa using r3
    clear r1 r2 r3 hc1
    refine hK1.out _ _ (by rw [hSd]; exact (hS14.out w1 R2.out).1) ?_
    clear hS' hK1
    intro hS'
    try simp only [Act.put, List.setIfInBounds_toArray, List.set_cons_zero, List.set_cons_succ]
    refine wpAnyH_take (i := 15) (oi := { dst := some 76, op := Op.indexAddr 55 (Operand.tmp 62) (Operand.tmp 65), type := 0, pos := "order.go:43", after := #[{ on := 1, ground := Ground.data }, { on := 4, ground := Ground.data }, { on := 0, ground := Ground.phase }, { on := 1, ground := Ground.phase }, { on := 2, ground := Ground.phase }, { on := 3, ground := Ground.phase }, { on := 4, ground := Ground.phase }, { on := 5, ground := Ground.phase }, { on := 6, ground := Ground.phase }, { on := 7, ground := Ground.phase }, { on := 8, ground := Ground.phase }, { on := 9, ground := Ground.phase }, { on := 10, ground := Ground.phase }, { on := 11, ground := Ground.phase }, { on := 12, ground := Ground.phase }, { on := 13, ground := Ground.phase }, { on := 14, ground := Ground.phase }], guard := none }) (v := .pointer (some ⟨ga, k, none⟩)) rfl (by kernel_rfl) (by kernel_rfl) (by kernel_rfl) (fun _ _ _ h => h.elim) (Or.inl ⟨by rfl, ?y15⟩) hS' ?_
    case y15 =>
      intro W hW
      rw [hSd] at hW; obtain ⟨s1, s2, s3⟩ := hW
      go_simp
    simp only [Act.put, List.setIfInBounds_toArray, List.set_cons_zero, List.set_cons_succ]
    refine wpAnyH_ready (rs := [16]) (by kernel_rfl) (by simp) (AllReadyH.cons (i := 16) (o := { dst := none, op := Op.store 56 (Operand.tmp 76) (Operand.tmp 75), type := 0, pos := "order.go:43", after := #[{ on := 15, ground := Ground.data }, { on := 14, ground := Ground.data }, { on := 14, ground := Ground.chain }, { on := 0, ground := Ground.phase }, { on := 1, ground := Ground.phase }, { on := 2, ground := Ground.phase }, { on := 3, ground := Ground.phase }, { on := 4, ground := Ground.phase }, { on := 5, ground := Ground.phase }, { on := 6, ground := Ground.phase }, { on := 7, ground := Ground.phase }, { on := 8, ground := Ground.phase }, { on := 9, ground := Ground.phase }, { on := 10, ground := Ground.phase }, { on := 11, ground := Ground.phase }, { on := 12, ground := Ground.phase }, { on := 13, ground := Ground.phase }, { on := 14, ground := Ground.phase }], guard := none }) rfl ?_ AllReadyH.nil)
    intro K1 hK1
    rw [if_pos (by rfl)]
    have hb1 := (hS14.out w1 R2.out).2.1
    have hc1 := hb1.cell hkL
    have hf1 := hb1.free k
    clear hb1
    go_wp2_with fail
    refine hK1.out _ _ (by rw [hSd]; exact (hS14.out w1 R2.out).2.2 _) ?_
    clear hS' hK1
    intro hS'
    try simp only [Act.put, List.setIfInBounds_toArray, List.set_cons_zero, List.set_cons_succ]
    refine wpAnyH_done (by kernel_rfl) ?_ _
    exact hQ.out p1 c1 w1 R1.out R2.out R3.out
  · intro K1 hK1
    rw [if_pos (by rfl)]
    refine wp_bs56 (.tmp 73) rfl m rfl ?_
    refine hK1.out _ _ (by rw [hSd]; exact hS13.out) ?_
    clear hS' hK1
    intro hS'
    try simp only [Act.put, List.setIfInBounds_toArray, List.set_cons_zero, List.set_cons_succ]
    refine wpAnyH_ready (rs := [11]) (by kernel_rfl) (by simp) (AllReadyH.cons (i := 11) (o := { dst := some 72, op := Op.load 56 (Operand.tmp 71), type := 56, pos := "order.go:43", after := #[{ on := 10, ground := Ground.data }], guard := none }) rfl ?_ AllReadyH.nil)
    intro K1 hK1
    rw [if_pos (by rfl)]
    have hc0 : (A.drew.alloc (.cells #[.int .i64 (m : Int)] 3)).cell? ⟨ga, k, none⟩ = some v := Blk.cell (w := (A.drew.alloc (.cells #[.int .i64 (m : Int)] 3))) (Blk.alloc (w := A.drew) hbl.out _) hkL
    generalize hWW : (A.drew.alloc (.cells #[.int .i64 (m : Int)] 3)) = WW at hc0 ⊢
    go_wp2_with fail
    subst hWW
    refine hK1.out _ _ (by rw [hSd]; exact hS13.out) ?_
    clear hS' hK1
    intro hS'
    try simp only [Act.put, List.setIfInBounds_toArray, List.set_cons_zero, List.set_cons_succ]
    refine wpAnyH_ready (rs := [14]) (by kernel_rfl) (by simp) (AllReadyH.cons (i := 14) (o := { dst := some 75, op := Op.call { callee := Callee.builtin Builtin.append, args := #[Operand.tmp 72, Operand.tmp 74], argTypes := #[56, 56] }, type := 56, pos := "order.go:43", after := #[{ on := 11, ground := Ground.data }, { on := 13, ground := Ground.data }], guard := none }) rfl ?_ AllReadyH.nil)
    intro K1 hK1
    rw [if_pos (by rfl)]
    have hc1 := (Blk.new A.drew #[.int .i64 (m : Int)] 3).cell (i := 0) (v := .int .i64 (m : Int)) rfl
    refine wp_appI (.tmp 72) (.tmp 74) rfl B v xs A.heap.size m rfl rfl (World.ownsRow.alloc (w := A.drew) hown.out _) hc1 hx.out (by have := hB.out; simp; omega) ?_
    intro v1 w1 r1 r2 r3
    have R1 : Hid _ := r1
    obtain ⟨p1, c1, rfl⟩ := own_slice R1.out
    have R2 : Hid ((A.drew.alloc (.cells #[.int .i64 (m : Int)] 3)).grownBy w1 v.ownBlock) := r2
    have R3 : Hid ((Value.slice p1 (xs.length + 1) c1).ownBlock = v.ownBlock ∨ (Value.slice p1 (xs.length + 1) c1).ownBlock = some (A.heap.size + 1)) := show _ ∨ _ from by simpa using r3
    clear r1 r2 r3 hc1
    refine hK1.out _ _ (by rw [hSd]; exact (hS14.out w1 R2.out).1) ?_
    clear hS' hK1
    intro hS'
    try simp only [Act.put, List.setIfInBounds_toArray, List.set_cons_zero, List.set_cons_succ]
    refine wpAnyH_take (i := 15) (oi := { dst := some 76, op := Op.indexAddr 55 (Operand.tmp 62) (Operand.tmp 65), type := 0, pos := "order.go:43", after := #[{ on := 1, ground := Ground.data }, { on := 4, ground := Ground.data }, { on := 0, ground := Ground.phase }, { on := 1, ground := Ground.phase }, { on := 2, ground := Ground.phase }, { on := 3, ground := Ground.phase }, { on := 4, ground := Ground.phase }, { on := 5, ground := Ground.phase }, { on := 6, ground := Ground.phase }, { on := 7, ground := Ground.phase }, { on := 8, ground := Ground.phase }, { on := 9, ground := Ground.phase }, { on := 10, ground := Ground.phase }, { on := 11, ground := Ground.phase }, { on := 12, ground := Ground.phase }, { on := 13, ground := Ground.phase }, { on := 14, ground := Ground.phase }], guard := none }) (v := .pointer (some ⟨ga, k, none⟩)) rfl (by kernel_rfl) (by kernel_rfl) (by kernel_rfl) (fun _ _ _ h => h.elim) (Or.inl ⟨by rfl, ?y15⟩) hS' ?_
    case y15 =>
      intro W hW
      rw [hSd] at hW; obtain ⟨s1, s2, s3⟩ := hW
      go_simp
    simp only [Act.put, List.setIfInBounds_toArray, List.set_cons_zero, List.set_cons_succ]
    refine wpAnyH_ready (rs := [16]) (by kernel_rfl) (by simp) (AllReadyH.cons (i := 16) (o := { dst := none, op := Op.store 56 (Operand.tmp 76) (Operand.tmp 75), type := 0, pos := "order.go:43", after := #[{ on := 15, ground := Ground.data }, { on := 14, ground := Ground.data }, { on := 14, ground := Ground.chain }, { on := 0, ground := Ground.phase }, { on := 1, ground := Ground.phase }, { on := 2, ground := Ground.phase }, { on := 3, ground := Ground.phase }, { on := 4, ground := Ground.phase }, { on := 5, ground := Ground.phase }, { on := 6, ground := Ground.phase }, { on := 7, ground := Ground.phase }, { on := 8, ground := Ground.phase }, { on := 9, ground := Ground.phase }, { on := 10, ground := Ground.phase }, { on := 11, ground := Ground.phase }, { on := 12, ground := Ground.phase }, { on := 13, ground := Ground.phase }, { on := 14, ground := Ground.phase }], guard := none }) rfl ?_ AllReadyH.nil)
    intro K1 hK1
    rw [if_pos (by rfl)]
    have hb1 := (hS14.out w1 R2.out).2.1
    have hc1 := hb1.cell hkL
    have hf1 := hb1.free k
    clear hb1
    go_wp2_with fail
    refine hK1.out _ _ (by rw [hSd]; exact (hS14.out w1 R2.out).2.2 _) ?_
    clear hS' hK1
    intro hS'
    try simp only [Act.put, List.setIfInBounds_toArray, List.set_cons_zero, List.set_cons_succ]
    refine wpAnyH_done (by kernel_rfl) ?_ _
    exact hQ.out p1 c1 w1 R1.out R2.out R3.out
#print axioms web_region16
end Go.Proofs.Ytijkpkcopjkhkaa.Oct
