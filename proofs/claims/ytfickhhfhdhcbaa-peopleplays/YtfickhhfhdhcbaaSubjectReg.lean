/-
  Layer 15 (people): Subject: its last region, whatever the order.
-/
import Derived.Test.YtfickhhfhdhcbaaTeamsOf
import Derived.Test.YtfickhhfhdhcbaaAddOrgReg
namespace Go.Proofs.Ytfickhhfhdhcbaa.Oct
open Go.RowKit
set_option linter.unusedSimpArgs false

theorem built42 (s : ByteArray) (a : Option Addr) (n c : Nat) (z : Int) (W : World) : (Instr.build 42 #[(0, .string s), (1, .slice a n c), (2, .int .i64 z)]).run Try.prog W = .ok (.agg #[.string s, .slice a n c, .int .i64 z]) W := by kernel_rfl
theorem built42h (x : Hs) (a : Option Addr) (n c : Nat) (z : Int) (W : World) : (Instr.build 42 #[(0, hv x), (1, .slice a n c), (2, .int .i64 z)]).run Try.prog W = .ok (.agg #[hv x, .slice a n c, .int .i64 z]) W := built42 _ a n c z W
theorem one42 {u : Hs} {a : Option Addr} {n c : Nat} {z : Int} : (#[hv u, Value.slice a n c, Value.int .i64 z]).all (·.oneCell') = true := by simp [hv, Value.oneCell']
theorem size42 : (Try.prog.info? 42).map (·.size) = some 3 := by kernel_rfl
set_option maxRecDepth 100000 in
set_option maxHeartbeats 2000000 in
theorem subject_region {Q : Exit → Act → World → Prop} {x0 x1 x3 x4 x5 x8 x9 x10 x11 x12 x13 x14 x15 x16 x17 x18 x19 x20 x21 x22 x23 x24 x25 x26 x27 x28 x29 x30 x31 x32 : Value} {ds : List Deferred} {A : World} {g0 ok tb rb : Nat} {u : Hs} {l : List Tm} {rs : List (Hs × Int)} {Z : List Value}
    (HG : Hid (Blk A g0 42 Z ∧ Z.length = 3 ∧ g0 ≠ ok ∧ g0 ≠ rb)) (HO : Hid (Blk A ok 73 [.map (some tb), .map (some rb)] ∧ MP A rb (rolesKv rs))) (HT : Hid (MP A tb (teamsKv l) ∧ l.length ≤ 8 ∧ (∀ tm ∈ l, MP A tm.blk (unit tm.mem)) ∧ u.length ≤ 140737488355328 ∧ ∀ tm ∈ l, tm.name.length ≤ 140737488355328))
    (hQ : ∀ V1 a c V2, V1.ownsRow A.heap.size 9 1 (.slice a (teamsOf l u).length c) (teamsOf l u).length ((teamsOf l u).map hv) ∧ Below A.heap.size A V1 → Blk V2 g0 42 [hv u, .slice a (teamsOf l u).length c, .int .i64 (roleOf rs u)] ∧ V1.grownBy V2 (some g0) → Q .normal { tmps := #[x0, x1, hv u, x3, x4, x5, .pointer (some ⟨g0, 0, none⟩), .pointer (some ⟨ok, 0, none⟩), x8, x9, x10, x11, x12, x13, x14, x15, x16, x17, x18, hv u, .pointer (some ⟨ok, 0, none⟩), .pointer (some ⟨ok, 0, none⟩), .pointer (some ⟨ok, 0, none⟩), .map (some tb), hv u, .slice a (teamsOf l u).length c, .pointer (some ⟨ok, 0, none⟩), .pointer (some ⟨ok, 0, none⟩), .pointer (some ⟨ok, 1, none⟩), .map (some rb), hv u, .int .i64 (roleOf rs u), .agg #[hv u, .slice a (teamsOf l u).length c, .int .i64 (roleOf rs u)]], defers := ds } V2) :
    (Code.region 4 #[{ dst := some 19, op := Op.move (Operand.tmp 2), type := 9, pos := "people.go:165", after := #[], guard := none }, { dst := some 20, op := Op.move (Operand.tmp 7), type := 65, pos := "people.go:165", after := #[], guard := none }, { dst := some 21, op := Op.nilCheck (Operand.tmp 20), type := 0, pos := "people.go:165", after := #[{ on := 1, ground := Ground.data }], guard := none }, { dst := some 22, op := Op.fieldAddr 73 (Operand.tmp 21) 0, type := 0, pos := "people.go:165", after := #[{ on := 2, ground := Ground.data }], guard := none }, { dst := some 23, op := Op.load 70 (Operand.tmp 22), type := 70, pos := "people.go:165", after := #[{ on := 3, ground := Ground.data }], guard := none }, { dst := some 24, op := Op.move (Operand.tmp 2), type := 9, pos := "people.go:165", after := #[], guard := none }, { dst := some 25, op := Op.call { callee := Callee.value (Operand.func 45), args := #[Operand.tmp 23, Operand.tmp 24], argTypes := #[70, 9] }, type := 27, pos := "people.go:165", after := #[{ on := 4, ground := Ground.data }, { on := 5, ground := Ground.data }], guard := none }, { dst := some 26, op := Op.move (Operand.tmp 7), type := 65, pos := "people.go:165", after := #[], guard := none }, { dst := some 27, op := Op.nilCheck (Operand.tmp 26), type := 0, pos := "people.go:165", after := #[{ on := 7, ground := Ground.data }], guard := none }, { dst := some 28, op := Op.fieldAddr 73 (Operand.tmp 27) 1, type := 0, pos := "people.go:165", after := #[{ on := 8, ground := Ground.data }], guard := none }, { dst := some 29, op := Op.load 71 (Operand.tmp 28), type := 71, pos := "people.go:165", after := #[{ on := 9, ground := Ground.data }], guard := none }, { dst := some 30, op := Op.move (Operand.tmp 2), type := 9, pos := "people.go:165", after := #[], guard := none }, { dst := some 31, op := Op.lookup 71 (Operand.tmp 29) (Operand.tmp 30) false, type := 3, pos := "people.go:165", after := #[{ on := 10, ground := Ground.data }, { on := 11, ground := Ground.data }], guard := none }, { dst := some 32, op := Op.build 42 #[(0, Operand.tmp 19), (1, Operand.tmp 25), (2, Operand.tmp 31)], type := 42, pos := "people.go:165", after := #[{ on := 0, ground := Ground.data }, { on := 6, ground := Ground.data }, { on := 12, ground := Ground.data }], guard := none }, { dst := none, op := Op.store 42 (Operand.tmp 6) (Operand.tmp 32), type := 0, pos := "people.go:165", after := #[{ on := 13, ground := Ground.data }, { on := 6, ground := Ground.chain }, { on := 0, ground := Ground.phase }, { on := 1, ground := Ground.phase }, { on := 2, ground := Ground.phase }, { on := 3, ground := Ground.phase }, { on := 4, ground := Ground.phase }, { on := 5, ground := Ground.phase }, { on := 6, ground := Ground.phase }, { on := 7, ground := Ground.phase }, { on := 8, ground := Ground.phase }, { on := 9, ground := Ground.phase }, { on := 10, ground := Ground.phase }, { on := 11, ground := Ground.phase }, { on := 12, ground := Ground.phase }, { on := 13, ground := Ground.phase }], guard := none }] true).wp Try.prog Q { tmps := #[x0, x1, hv u, x3, x4, x5, .pointer (some ⟨g0, 0, none⟩), .pointer (some ⟨ok, 0, none⟩), x8, x9, x10, x11, x12, x13, x14, x15, x16, x17, x18, x19, x20, x21, x22, x23, x24, x25, x26, x27, x28, x29, x30, x31, x32], defers := ds } A := by
  refine Code.wp_mono (Q := fun x a' w' => match x with | .normal => Q .normal a' w' | _ => False) (by intro x a' w' h; cases x <;> first | exact h | exact h.elim) ?_
  refine wp_region_held (S := fun V => V.heap[ok]? = A.heap[ok]? ∧ V.heap[rb]? = A.heap[rb]?) (by kernel_rfl) ?_
  have hS0 : Hid (A.drew.heap[ok]? = A.heap[ok]? ∧ A.drew.heap[rb]? = A.heap[rb]?) := ⟨rfl, rfl⟩
  change wpAnyH Try.prog .any _ _ (fun V => V.heap[ok]? = A.heap[ok]? ∧ V.heap[rb]? = A.heap[rb]?) 15 (Array.replicate 15 false) _ A.drew
  refine wpAnyH_take (i := 0) (oi := { dst := some 19, op := Op.move (Operand.tmp 2), type := 9, pos := "people.go:165", after := #[], guard := none }) (v := hv u) rfl (by kernel_rfl) (by kernel_rfl) (by kernel_rfl) (fun _ _ _ h => h.elim) (Or.inl ⟨by rfl, ?y0⟩) hS0.out ?_
  case y0 =>
    intro V hV
    go_simp
  simp only [Act.put, List.setIfInBounds_toArray, List.set_cons_zero, List.set_cons_succ]
  refine wpAnyH_take (i := 1) (oi := { dst := some 20, op := Op.move (Operand.tmp 7), type := 65, pos := "people.go:165", after := #[], guard := none }) (v := .pointer (some ⟨ok, 0, none⟩)) rfl (by kernel_rfl) (by kernel_rfl) (by kernel_rfl) (fun _ _ _ h => h.elim) (Or.inl ⟨by rfl, ?y1⟩) hS0.out ?_
  case y1 =>
    intro V hV
    go_simp
  simp only [Act.put, List.setIfInBounds_toArray, List.set_cons_zero, List.set_cons_succ]
  refine wpAnyH_take (i := 2) (oi := { dst := some 21, op := Op.nilCheck (Operand.tmp 20), type := 0, pos := "people.go:165", after := #[{ on := 1, ground := Ground.data }], guard := none }) (v := .pointer (some ⟨ok, 0, none⟩)) rfl (by kernel_rfl) (by kernel_rfl) (by kernel_rfl) (fun _ _ _ h => h.elim) (Or.inl ⟨by rfl, ?y2⟩) hS0.out ?_
  case y2 =>
    intro V hV
    go_simp
  simp only [Act.put, List.setIfInBounds_toArray, List.set_cons_zero, List.set_cons_succ]
  refine wpAnyH_take (i := 3) (oi := { dst := some 22, op := Op.fieldAddr 73 (Operand.tmp 21) 0, type := 0, pos := "people.go:165", after := #[{ on := 2, ground := Ground.data }], guard := none }) (v := .pointer (some ⟨ok, 0, none⟩)) rfl (by kernel_rfl) (by kernel_rfl) (by kernel_rfl) (fun _ _ _ h => h.elim) (Or.inl ⟨by rfl, ?y3⟩) hS0.out ?_
  case y3 =>
    intro V hV
    go_simp
  simp only [Act.put, List.setIfInBounds_toArray, List.set_cons_zero, List.set_cons_succ]
  refine wpAnyH_take (i := 4) (oi := { dst := some 23, op := Op.load 70 (Operand.tmp 22), type := 70, pos := "people.go:165", after := #[{ on := 3, ground := Ground.data }], guard := none }) (v := .map (some tb)) rfl (by kernel_rfl) (by kernel_rfl) (by kernel_rfl) (fun _ _ _ h => h.elim) (Or.inl ⟨by rfl, ?y4⟩) hS0.out ?_
  case y4 =>
    intro V hV
    have k0 : V.cell? ⟨ok, 0, none⟩ = some (.map (some tb)) := Blk.cell (show Blk V ok 73 [.map (some tb), .map (some rb)] from hV.1.trans HO.out.1) rfl
    go_simp
  simp only [Act.put, List.setIfInBounds_toArray, List.set_cons_zero, List.set_cons_succ]
  refine wpAnyH_take (i := 5) (oi := { dst := some 24, op := Op.move (Operand.tmp 2), type := 9, pos := "people.go:165", after := #[], guard := none }) (v := hv u) rfl (by kernel_rfl) (by kernel_rfl) (by kernel_rfl) (fun _ _ _ h => h.elim) (Or.inl ⟨by rfl, ?y5⟩) hS0.out ?_
  case y5 =>
    intro V hV
    go_simp
  simp only [Act.put, List.setIfInBounds_toArray, List.set_cons_zero, List.set_cons_succ]
  refine wpAnyH_take (i := 7) (oi := { dst := some 26, op := Op.move (Operand.tmp 7), type := 65, pos := "people.go:165", after := #[], guard := none }) (v := .pointer (some ⟨ok, 0, none⟩)) rfl (by kernel_rfl) (by kernel_rfl) (by kernel_rfl) (fun _ _ _ h => h.elim) (Or.inl ⟨by rfl, ?y7⟩) hS0.out ?_
  case y7 =>
    intro V hV
    go_simp
  simp only [Act.put, List.setIfInBounds_toArray, List.set_cons_zero, List.set_cons_succ]
  refine wpAnyH_take (i := 8) (oi := { dst := some 27, op := Op.nilCheck (Operand.tmp 26), type := 0, pos := "people.go:165", after := #[{ on := 7, ground := Ground.data }], guard := none }) (v := .pointer (some ⟨ok, 0, none⟩)) rfl (by kernel_rfl) (by kernel_rfl) (by kernel_rfl) (fun _ _ _ h => h.elim) (Or.inl ⟨by rfl, ?y8⟩) hS0.out ?_
  case y8 =>
    intro V hV
    go_simp
  simp only [Act.put, List.setIfInBounds_toArray, List.set_cons_zero, List.set_cons_succ]
  refine wpAnyH_take (i := 9) (oi := { dst := some 28, op := Op.fieldAddr 73 (Operand.tmp 27) 1, type := 0, pos := "people.go:165", after := #[{ on := 8, ground := Ground.data }], guard := none }) (v := .pointer (some ⟨ok, 1, none⟩)) rfl (by kernel_rfl) (by kernel_rfl) (by kernel_rfl) (fun _ _ _ h => h.elim) (Or.inl ⟨by rfl, ?y9⟩) hS0.out ?_
  case y9 =>
    intro V hV
    go_simp
  simp only [Act.put, List.setIfInBounds_toArray, List.set_cons_zero, List.set_cons_succ]
  refine wpAnyH_take (i := 10) (oi := { dst := some 29, op := Op.load 71 (Operand.tmp 28), type := 71, pos := "people.go:165", after := #[{ on := 9, ground := Ground.data }], guard := none }) (v := .map (some rb)) rfl (by kernel_rfl) (by kernel_rfl) (by kernel_rfl) (fun _ _ _ h => h.elim) (Or.inl ⟨by rfl, ?y10⟩) hS0.out ?_
  case y10 =>
    intro V hV
    have k1 : V.cell? ⟨ok, 1, none⟩ = some (.map (some rb)) := Blk.cell (show Blk V ok 73 [.map (some tb), .map (some rb)] from hV.1.trans HO.out.1) rfl
    go_simp
  simp only [Act.put, List.setIfInBounds_toArray, List.set_cons_zero, List.set_cons_succ]
  refine wpAnyH_take (i := 11) (oi := { dst := some 30, op := Op.move (Operand.tmp 2), type := 9, pos := "people.go:165", after := #[], guard := none }) (v := hv u) rfl (by kernel_rfl) (by kernel_rfl) (by kernel_rfl) (fun _ _ _ h => h.elim) (Or.inl ⟨by rfl, ?y11⟩) hS0.out ?_
  case y11 =>
    intro V hV
    go_simp
  simp only [Act.put, List.setIfInBounds_toArray, List.set_cons_zero, List.set_cons_succ]
  refine wpAnyH_take (i := 12) (oi := { dst := some 31, op := Op.lookup 71 (Operand.tmp 29) (Operand.tmp 30) false, type := 3, pos := "people.go:165", after := #[{ on := 10, ground := Ground.data }, { on := 11, ground := Ground.data }], guard := none }) (v := .int .i64 (roleOf rs u)) rfl (by kernel_rfl) (by kernel_rfl) (by kernel_rfl) (fun _ _ _ h => h.elim) (Or.inl ⟨by rfl, ?y12⟩) hS0.out ?_
  case y12 =>
    intro V hV
    have hlk := (HO.out.2.same hV.2).look (t := 71) (h := u) Try.underlying71 (len_max HT.out.2.2.2.1) (zero3 V)
    rw [look_roles] at hlk
    go_simp
  simp only [Act.put, List.setIfInBounds_toArray, List.set_cons_zero, List.set_cons_succ]
  refine wpAnyH_ready (rs := [6]) (by kernel_rfl) (by simp) (AllReadyH.cons (i := 6) (o := { dst := some 25, op := Op.call { callee := Callee.value (Operand.func 45), args := #[Operand.tmp 23, Operand.tmp 24], argTypes := #[70, 9] }, type := 27, pos := "people.go:165", after := #[{ on := 4, ground := Ground.data }, { on := 5, ground := Ground.data }], guard := none }) rfl ?_ AllReadyH.nil)
  intro K1 hK1
  rw [if_pos (by rfl)]
  have HC6 := teamsOf_is (w := A.drew) (tb := tb) (l := l) (HT.out.1.same rfl) HT.out.2.1 (fun tm ht => (HT.out.2.2.1 tm ht).same rfl) u HT.out.2.2.2.1 HT.out.2.2.2.2
  go_wp2_with fail
  refine HC6.mono ?_
  rintro e V1 ⟨a, c, rfl, hT⟩
  dsimp only
  clear HC6
  have hN : Hid (V1.ownsRow A.heap.size 9 1 (.slice a (teamsOf l u).length c) (teamsOf l u).length ((teamsOf l u).map hv) ∧ Below A.heap.size A V1) := ⟨hT.out.1, (below_drew A).trans hT.out.2⟩
  clear hT
  have hS1 : Hid (V1.heap[ok]? = A.heap[ok]? ∧ V1.heap[rb]? = A.heap[rb]?) := ⟨hN.out.2.block _ HO.out.1.lt, hN.out.2.block _ HO.out.2.lt⟩
  refine hK1.out _ _ hS1.out ?_
  clear hK1
  intro _
  try simp only [Act.put, List.setIfInBounds_toArray, List.set_cons_zero, List.set_cons_succ]
  refine wpAnyH_take (i := 13) (oi := { dst := some 32, op := Op.build 42 #[(0, Operand.tmp 19), (1, Operand.tmp 25), (2, Operand.tmp 31)], type := 42, pos := "people.go:165", after := #[{ on := 0, ground := Ground.data }, { on := 6, ground := Ground.data }, { on := 12, ground := Ground.data }], guard := none }) (v := .agg #[hv u, .slice a (teamsOf l u).length c, .int .i64 (roleOf rs u)]) rfl (by kernel_rfl) (by kernel_rfl) (by kernel_rfl) (fun _ _ _ h => h.elim) (Or.inl ⟨by rfl, ?y13⟩) hS1.out ?_
  case y13 =>
    intro V hV
    unfold hv
    go_simp
  simp only [Act.put, List.setIfInBounds_toArray, List.set_cons_zero, List.set_cons_succ]
  refine wpAnyH_ready (rs := [14]) (by kernel_rfl) (by simp) (AllReadyH.cons (i := 14) (o := { dst := none, op := Op.store 42 (Operand.tmp 6) (Operand.tmp 32), type := 0, pos := "people.go:165", after := #[{ on := 13, ground := Ground.data }, { on := 6, ground := Ground.chain }, { on := 0, ground := Ground.phase }, { on := 1, ground := Ground.phase }, { on := 2, ground := Ground.phase }, { on := 3, ground := Ground.phase }, { on := 4, ground := Ground.phase }, { on := 5, ground := Ground.phase }, { on := 6, ground := Ground.phase }, { on := 7, ground := Ground.phase }, { on := 8, ground := Ground.phase }, { on := 9, ground := Ground.phase }, { on := 10, ground := Ground.phase }, { on := 11, ground := Ground.phase }, { on := 12, ground := Ground.phase }, { on := 13, ground := Ground.phase }], guard := none }) rfl ?_ AllReadyH.nil)
  intro K1 hK1
  rw [if_pos (by rfl)]
  have hB1 : Blk V1 g0 42 Z := HG.out.1.below hN.out.2 HG.out.1.lt
  refine wp_store_mid 42 (.tmp 6) (.tmp 32) rfl g0 0 #[hv u, .slice a (teamsOf l u).length c, .int .i64 (roleOf rs u)] rfl rfl (by have := hB1.there 0 3 (by rw [HG.out.2.1]; omega); simpa using this) size42 one42 ?_
  have e14 := Blk.setCells [hv u, .slice a (teamsOf l u).length c, .int .i64 (roleOf rs u)] 0 V1 Z hB1 (by rw [HG.out.2.1]; simp)
  obtain ⟨V2, hV2⟩ : ∃ V2, V1.setCells g0 0 [hv u, .slice a (teamsOf l u).length c, .int .i64 (roleOf rs u)] = V2 := ⟨_, rfl⟩
  rw [hV2] at e14
  have hP : Hid (Blk V2 g0 42 [hv u, .slice a (teamsOf l u).length c, .int .i64 (roleOf rs u)] ∧ V1.grownBy V2 (some g0)) := ⟨by have h := e14.1; rw [List.drop_eq_nil_of_le (by rw [HG.out.2.1]; simp)] at h; simpa using h, e14.2⟩
  show K1 _ (V1.setCells g0 0 [hv u, .slice a (teamsOf l u).length c, .int .i64 (roleOf rs u)])
  rw [hV2]
  have hS2 : Hid (V2.heap[ok]? = A.heap[ok]? ∧ V2.heap[rb]? = A.heap[rb]?) := ⟨(hP.out.2.block _ (Nat.lt_of_lt_of_le HO.out.1.lt hN.out.2.size) (by have := HG.out.2.2.1; simpa using this.symm)).trans hS1.out.1, (hP.out.2.block _ (Nat.lt_of_lt_of_le HO.out.2.lt hN.out.2.size) (by have := HG.out.2.2.2; simpa using this.symm)).trans hS1.out.2⟩
  refine hK1.out _ _ hS2.out ?_
  clear hK1
  intro _
  try simp only [Act.put, List.setIfInBounds_toArray, List.set_cons_zero, List.set_cons_succ]
  refine wpAnyH_done (by kernel_rfl) ?_ _
  exact hQ V1 a c V2 hN.out hP.out
#print axioms subject_region
end Go.Proofs.Ytfickhhfhdhcbaa.Oct
