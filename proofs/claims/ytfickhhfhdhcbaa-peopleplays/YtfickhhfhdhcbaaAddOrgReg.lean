/-
  Layer 15 (people): AddOrg: a new organisation laid into its map, whatever the order.
-/
import Derived.Test.YtfickhhfhdhcbaaTurn
import Derived.Deep.RegionHeldLaw
namespace Go.Proofs.Ytfickhhfhdhcbaa.Oct
open Go.RowKit
set_option linter.unusedSimpArgs false

theorem below_drew {B : Nat} (w : World) : Below B w w.drew := ⟨rfl, rfl, rfl, Nat.le_refl _, fun _ _ => rfl⟩
set_option maxRecDepth 100000 in
set_option maxHeartbeats 2000000 in
theorem addOrg_region {Q : Exit → Act → World → Prop} {x3 x4 x5 x6 x7 x8 x9 x10 x11 x12 x13 x14 x15 x16 x17 x18 x19 x20 x21 x22 x23 x24 x25 x26 x27 x28 x29 x30 x31 x32 x33 x34 x35 x36 x37 x38 x39 : Value} {ds : List Deferred} {A : World} {p ob : Nat} {xo u : Hs} {l : Kv}
    (hpo : p ≠ ob) (HM : Hid (MP A ob l)) (HX : Hid (xo.length ≤ 140737488355328)) (HU : Hid (u.length ≤ 140737488355328)) (HS : Hid (A.cell? ⟨p, 1, none⟩ = some (.map (some ob)) ∧ p < A.heap.size))
    (hQ : ∀ V1 V2, MP V1 A.heap.size [] ∧ MP V1 (A.heap.size + 1) [(u, .int .i64 2)] ∧ Blk V1 (A.heap.size + 1 + 1) 73 [.map (some A.heap.size), .map (some (A.heap.size + 1))] ∧ Below A.heap.size A V1 → MP V2 ob (kput l xo (.pointer (some ⟨A.heap.size + 1 + 1, 0, none⟩))) ∧ V1.grownBy V2 (some ob) ∧ V2.heap.size = V1.heap.size → Q .normal { tmps := #[.pointer (some ⟨p, 0, none⟩), hv xo, hv u, x3, x4, x5, x6, x7, x8, x9, x10, x11, x12, x13, x14, x15, x16, x17, x18, x19, x20, x21, x22, x23, x24, x25, x26, x27, x28, x29, x30, x31, x32, .pointer (some ⟨p, 0, none⟩), .pointer (some ⟨p, 0, none⟩), .pointer (some ⟨p, 1, none⟩), .map (some ob), hv xo, hv u, .pointer (some ⟨A.heap.size + 1 + 1, 0, none⟩)], defers := ds } V2) :
    (Code.region 10 #[{ dst := some 33, op := Op.move (Operand.tmp 0), type := 25, pos := "people.go:58", after := #[], guard := none }, { dst := some 34, op := Op.nilCheck (Operand.tmp 33), type := 0, pos := "people.go:58", after := #[{ on := 0, ground := Ground.data }], guard := none }, { dst := some 35, op := Op.fieldAddr 51 (Operand.tmp 34) 1, type := 0, pos := "people.go:58", after := #[{ on := 1, ground := Ground.data }], guard := none }, { dst := some 36, op := Op.load 49 (Operand.tmp 35), type := 49, pos := "people.go:58", after := #[{ on := 2, ground := Ground.data }], guard := none }, { dst := some 37, op := Op.move (Operand.tmp 1), type := 9, pos := "people.go:58", after := #[], guard := none }, { dst := some 38, op := Op.move (Operand.tmp 2), type := 9, pos := "people.go:58", after := #[], guard := none }, { dst := some 39, op := Op.call { callee := Callee.value (Operand.func 52), args := #[Operand.tmp 38], argTypes := #[9] }, type := 65, pos := "people.go:58", after := #[{ on := 5, ground := Ground.data }], guard := none }, { dst := none, op := Op.mapUpdate 49 (Operand.tmp 36) (Operand.tmp 37) (Operand.tmp 39), type := 0, pos := "people.go:58", after := #[{ on := 3, ground := Ground.data }, { on := 4, ground := Ground.data }, { on := 6, ground := Ground.data }, { on := 6, ground := Ground.chain }, { on := 0, ground := Ground.phase }, { on := 1, ground := Ground.phase }, { on := 2, ground := Ground.phase }, { on := 3, ground := Ground.phase }, { on := 4, ground := Ground.phase }, { on := 5, ground := Ground.phase }, { on := 6, ground := Ground.phase }], guard := none }] true).wp Try.prog Q { tmps := #[.pointer (some ⟨p, 0, none⟩), hv xo, hv u, x3, x4, x5, x6, x7, x8, x9, x10, x11, x12, x13, x14, x15, x16, x17, x18, x19, x20, x21, x22, x23, x24, x25, x26, x27, x28, x29, x30, x31, x32, x33, x34, x35, x36, x37, x38, x39], defers := ds } A := by
  refine Code.wp_mono (Q := fun x a' w' => match x with | .normal => Q .normal a' w' | _ => False) (by intro x a' w' h; cases x <;> first | exact h | exact h.elim) ?_
  refine wp_region_held (S := fun V => V.cell? ⟨p, 1, none⟩ = some (.map (some ob))) (by kernel_rfl) ?_
  have hS0 : Hid (A.drew.cell? ⟨p, 1, none⟩ = some (.map (some ob))) := HS.out.1
  change wpAnyH Try.prog .any _ _ (fun V => V.cell? ⟨p, 1, none⟩ = some (.map (some ob))) 8 (Array.replicate 8 false) _ A.drew
  refine wpAnyH_take (i := 0) (oi := { dst := some 33, op := Op.move (Operand.tmp 0), type := 25, pos := "people.go:58", after := #[], guard := none }) (v := .pointer (some ⟨p, 0, none⟩)) rfl (by kernel_rfl) (by kernel_rfl) (by kernel_rfl) (fun _ _ _ h => h.elim) (Or.inl ⟨by rfl, ?y0⟩) hS0.out ?_
  case y0 =>
    intro V hV
    go_simp
  simp only [Act.put, List.setIfInBounds_toArray, List.set_cons_zero, List.set_cons_succ]
  refine wpAnyH_take (i := 1) (oi := { dst := some 34, op := Op.nilCheck (Operand.tmp 33), type := 0, pos := "people.go:58", after := #[{ on := 0, ground := Ground.data }], guard := none }) (v := .pointer (some ⟨p, 0, none⟩)) rfl (by kernel_rfl) (by kernel_rfl) (by kernel_rfl) (fun _ _ _ h => h.elim) (Or.inl ⟨by rfl, ?y1⟩) hS0.out ?_
  case y1 =>
    intro V hV
    go_simp
  simp only [Act.put, List.setIfInBounds_toArray, List.set_cons_zero, List.set_cons_succ]
  refine wpAnyH_take (i := 2) (oi := { dst := some 35, op := Op.fieldAddr 51 (Operand.tmp 34) 1, type := 0, pos := "people.go:58", after := #[{ on := 1, ground := Ground.data }], guard := none }) (v := .pointer (some ⟨p, 1, none⟩)) rfl (by kernel_rfl) (by kernel_rfl) (by kernel_rfl) (fun _ _ _ h => h.elim) (Or.inl ⟨by rfl, ?y2⟩) hS0.out ?_
  case y2 =>
    intro V hV
    go_simp
  simp only [Act.put, List.setIfInBounds_toArray, List.set_cons_zero, List.set_cons_succ]
  refine wpAnyH_take (i := 3) (oi := { dst := some 36, op := Op.load 49 (Operand.tmp 35), type := 49, pos := "people.go:58", after := #[{ on := 2, ground := Ground.data }], guard := none }) (v := .map (some ob)) rfl (by kernel_rfl) (by kernel_rfl) (by kernel_rfl) (fun _ _ _ h => h.elim) (Or.inl ⟨by rfl, ?y3⟩) hS0.out ?_
  case y3 =>
    intro V hV
    have hV1 : V.cell? ⟨p, 1, none⟩ = some (.map (some ob)) := hV
    go_simp
  simp only [Act.put, List.setIfInBounds_toArray, List.set_cons_zero, List.set_cons_succ]
  refine wpAnyH_take (i := 4) (oi := { dst := some 37, op := Op.move (Operand.tmp 1), type := 9, pos := "people.go:58", after := #[], guard := none }) (v := hv xo) rfl (by kernel_rfl) (by kernel_rfl) (by kernel_rfl) (fun _ _ _ h => h.elim) (Or.inl ⟨by rfl, ?y4⟩) hS0.out ?_
  case y4 =>
    intro V hV
    go_simp
  simp only [Act.put, List.setIfInBounds_toArray, List.set_cons_zero, List.set_cons_succ]
  refine wpAnyH_take (i := 5) (oi := { dst := some 38, op := Op.move (Operand.tmp 2), type := 9, pos := "people.go:58", after := #[], guard := none }) (v := hv u) rfl (by kernel_rfl) (by kernel_rfl) (by kernel_rfl) (fun _ _ _ h => h.elim) (Or.inl ⟨by rfl, ?y5⟩) hS0.out ?_
  case y5 =>
    intro V hV
    go_simp
  simp only [Act.put, List.setIfInBounds_toArray, List.set_cons_zero, List.set_cons_succ]
  refine wpAnyH_ready (rs := [6]) (by kernel_rfl) (by simp) (AllReadyH.cons (i := 6) (o := { dst := some 39, op := Op.call { callee := Callee.value (Operand.func 52), args := #[Operand.tmp 38], argTypes := #[9] }, type := 65, pos := "people.go:58", after := #[{ on := 5, ground := Ground.data }], guard := none }) rfl ?_ AllReadyH.nil)
  intro K1 hK1
  rw [if_pos (by rfl)]
  have HC6 := newOrg_is u HU.out A.drew
  go_wp2_with fail
  refine HC6.mono ?_
  rintro e V1 ⟨rfl, n1, n2, n3, n4⟩
  dsimp only
  clear HC6
  have hN : Hid (MP V1 A.heap.size [] ∧ MP V1 (A.heap.size + 1) [(u, .int .i64 2)] ∧ Blk V1 (A.heap.size + 1 + 1) 73 [.map (some A.heap.size), .map (some (A.heap.size + 1))] ∧ Below A.heap.size A V1) := ⟨n1, n2, n3, (below_drew A).trans n4⟩
  clear n1 n2 n3 n4
  have hS1 : Hid (V1.cell? ⟨p, 1, none⟩ = some (.map (some ob))) := ((hN.out.2.2.2).cell (p := ⟨p, 1, none⟩) HS.out.2).trans HS.out.1
  refine hK1.out _ _ hS1.out ?_
  clear hK1
  intro _
  try simp only [Act.put, List.setIfInBounds_toArray, List.set_cons_zero, List.set_cons_succ]
  refine wpAnyH_ready (rs := [7]) (by kernel_rfl) (by simp) (AllReadyH.cons (i := 7) (o := { dst := none, op := Op.mapUpdate 49 (Operand.tmp 36) (Operand.tmp 37) (Operand.tmp 39), type := 0, pos := "people.go:58", after := #[{ on := 3, ground := Ground.data }, { on := 4, ground := Ground.data }, { on := 6, ground := Ground.data }, { on := 6, ground := Ground.chain }, { on := 0, ground := Ground.phase }, { on := 1, ground := Ground.phase }, { on := 2, ground := Ground.phase }, { on := 3, ground := Ground.phase }, { on := 4, ground := Ground.phase }, { on := 5, ground := Ground.phase }, { on := 6, ground := Ground.phase }], guard := none }) rfl ?_ AllReadyH.nil)
  intro K1 hK1
  rw [if_pos (by rfl)]
  obtain ⟨V2, hrun, m1, m2, m3⟩ := (HM.out.same (hN.out.2.2.2.block ob HM.out.lt)).put (t := 49) (h := xo) Try.underlying49 (len_max HX.out) (.pointer (some ⟨A.heap.size + 1 + 1, 0, none⟩))
  have hP : Hid (MP V2 ob (kput l xo (.pointer (some ⟨A.heap.size + 1 + 1, 0, none⟩))) ∧ V1.grownBy V2 (some ob) ∧ V2.heap.size = V1.heap.size) := ⟨m1, m2, m3⟩
  clear m1 m2 m3
  go_wp2_with fail
  have hS2 : Hid (V2.cell? ⟨p, 1, none⟩ = some (.map (some ob))) := by
    have h1 := hP.out.2.1.block p (Nat.lt_of_lt_of_le HS.out.2 hN.out.2.2.2.size) (by simpa using hpo)
    have h2 := hS1.out
    show V2.cell? ⟨p, 1, none⟩ = _
    rw [← h2]
    simp only [World.cell?, h1]
  refine hK1.out _ _ hS2.out ?_
  clear hK1
  intro _
  try simp only [Act.put, List.setIfInBounds_toArray, List.set_cons_zero, List.set_cons_succ]
  refine wpAnyH_done (by kernel_rfl) ?_ _
  exact hQ V1 V2 hN.out hP.out
#print axioms addOrg_region
end Go.Proofs.Ytfickhhfhdhcbaa.Oct
