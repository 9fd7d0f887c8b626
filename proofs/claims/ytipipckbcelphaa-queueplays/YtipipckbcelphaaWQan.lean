/-
  Layer 21 (queue): answer: a try is called, and at work no more behind it.
-/
import Derived.Test.YtipipckbcelphaaWQen
import Derived.Defers
import Derived.Shelf.Abstract
namespace Go.Proofs.Ytipipckbcelphaa.Oct
open Go.RowKit Go.Shelf
set_option linter.unusedSimpArgs false
set_option linter.unusedVariables false

set_option maxRecDepth 100000 in
set_option maxHeartbeats 4000000 in
theorem ans3 {Q : Exit → Act → World → Prop} {x0 x1 x3 x4 x5 x6 x7 x8 x9 x10 x11 x12 x13 x14 x15 x16 x17 x18 x19 x20 : Value} {ds : List Deferred} {A : World} {S0 : Nat → Prop} {b k2 g n cap F : Nat} {x : Int} {cs : Array Value} {R : Int → World → Prop}
    (HL : Hid (k2 < A.heap.size ∧ ¬ S0 k2)) (c2 : A.cell? ⟨k2, 0, none⟩ = some (.pointer (some ⟨b, 0, none⟩))) (HX : Hid (A.cell? ⟨b, 3, none⟩ = some (.func (.func F) #[] cs) ∧ A.cell? ⟨b, 1, none⟩ = some (.slice (some ⟨g, 0, none⟩) n cap) ∧ A.cell? ⟨g, 0, none⟩ = some (iv x))) (HN : Hid (0 < n ∧ n ≤ 64)) (hent : ∀ (args : Array Value) (w : World), (callFunc F args).run Try.prog w = .ok (.enter F args) w)
    (HT0 : Calls Try.prog F (#[iv x] ++ cs) A.drew fun e V => ∃ r, e = .returned (iv r) ∧ Keep S0 A V ∧ R r V)
    (hQ : ∀ V1 r, R r V1 → Keep S0 A V1 → Q .normal { tmps := #[x0, x1, .pointer (some ⟨k2, 0, none⟩), x3, iv r, x5, x6, x7, x8, x9, .pointer (some ⟨b, 0, none⟩), .pointer (some ⟨b, 0, none⟩), .pointer (some ⟨b, 3, none⟩), .func (.func F) #[] cs, .pointer (some ⟨b, 0, none⟩), .pointer (some ⟨b, 0, none⟩), .pointer (some ⟨b, 1, none⟩), .slice (some ⟨g, 0, none⟩) n cap, .pointer (some ⟨g, 0, none⟩), iv x, iv r], defers := ds } V1) :
    (Code.region 3 #[{ dst := some 10, op := Op.load 25 (Operand.tmp 2), type := 25, pos := "queue.go:88", after := #[], guard := none }, { dst := some 11, op := Op.nilCheck (Operand.tmp 10), type := 0, pos := "queue.go:88", after := #[{ on := 0, ground := Ground.data }], guard := none }, { dst := some 12, op := Op.fieldAddr 54 (Operand.tmp 11) 3, type := 0, pos := "queue.go:88", after := #[{ on := 1, ground := Ground.data }], guard := none }, { dst := some 13, op := Op.load 34 (Operand.tmp 12), type := 34, pos := "queue.go:88", after := #[{ on := 2, ground := Ground.data }], guard := none }, { dst := some 14, op := Op.load 25 (Operand.tmp 2), type := 25, pos := "queue.go:88", after := #[], guard := none }, { dst := some 15, op := Op.nilCheck (Operand.tmp 14), type := 0, pos := "queue.go:88", after := #[{ on := 4, ground := Ground.data }], guard := none }, { dst := some 16, op := Op.fieldAddr 54 (Operand.tmp 15) 1, type := 0, pos := "queue.go:88", after := #[{ on := 5, ground := Ground.data }], guard := none }, { dst := some 17, op := Op.load 27 (Operand.tmp 16), type := 27, pos := "queue.go:88", after := #[{ on := 6, ground := Ground.data }], guard := none }, { dst := some 18, op := Op.indexAddr 27 (Operand.tmp 17) (Operand.const (Value.int IntKind.i64 0)), type := 0, pos := "queue.go:88", after := #[{ on := 7, ground := Ground.data }], guard := none }, { dst := some 19, op := Op.load 3 (Operand.tmp 18), type := 3, pos := "queue.go:88", after := #[{ on := 8, ground := Ground.data }], guard := none }, { dst := some 20, op := Op.call { callee := Callee.value (Operand.tmp 13), args := #[Operand.tmp 19], argTypes := #[3] }, type := 33, pos := "queue.go:88", after := #[{ on := 3, ground := Ground.data }, { on := 9, ground := Ground.data }], guard := none }, { dst := some 4, op := Op.assign (Operand.tmp 20), type := 33, pos := "queue.go:88", after := #[{ on := 10, ground := Ground.data }, { on := 10, ground := Ground.chain }, { on := 0, ground := Ground.phase }, { on := 1, ground := Ground.phase }, { on := 2, ground := Ground.phase }, { on := 3, ground := Ground.phase }, { on := 4, ground := Ground.phase }, { on := 5, ground := Ground.phase }, { on := 6, ground := Ground.phase }, { on := 7, ground := Ground.phase }, { on := 8, ground := Ground.phase }, { on := 9, ground := Ground.phase }, { on := 10, ground := Ground.phase }], guard := none }] true).wp Try.prog Q { tmps := #[x0, x1, .pointer (some ⟨k2, 0, none⟩), x3, x4, x5, x6, x7, x8, x9, x10, x11, x12, x13, x14, x15, x16, x17, x18, x19, x20], defers := ds } A := by
  refine Code.wp_mono (Q := fun x a' w' => match x with | .normal => Q .normal a' w' | _ => False) (by intro x a' w' h; cases x <;> first | exact h | exact h.elim) ?_
  refine wp_region_held (S := fun V => Keep (S0) A V) (by kernel_rfl) ?_
  have hS0 : Hid (Keep (S0) A A.drew) := (Keep.refl _ A).drew
  change wpAnyH Try.prog .any _ _ (fun V => Keep (S0) A V) 12 (Array.replicate 12 false) _ A.drew
  obtain ⟨V0, hV0⟩ : ∃ V0, A.drew = V0 := ⟨_, rfl⟩
  rw [hV0]
  rw [hV0] at hS0
  have HX0 : Hid (V0.cell? ⟨b, 3, none⟩ = some (.func (.func F) #[] cs) ∧ V0.cell? ⟨b, 1, none⟩ = some (.slice (some ⟨g, 0, none⟩) n cap) ∧ V0.cell? ⟨g, 0, none⟩ = some (iv x)) := by rw [← hV0]; exact HX.out
  have HT := HT0
  rw [hV0] at HT
  clear HT0
  clear hV0
  refine wpAnyH_take (i := 0) (oi := { dst := some 10, op := Op.load 25 (Operand.tmp 2), type := 25, pos := "queue.go:88", after := #[], guard := none }) (v := .pointer (some ⟨b, 0, none⟩)) rfl (by kernel_rfl) (by kernel_rfl) (by kernel_rfl) (fun _ _ _ h => h.elim) (Or.inl ⟨by rfl, ?y1⟩) hS0.out ?_
  case y1 =>
    intro V hV
    have hc : V.cell? ⟨k2, 0, none⟩ = some (.pointer (some ⟨b, 0, none⟩)) := (World.cell?_of_block (a := ⟨k2, 0, none⟩) ((show Keep (S0) A V from hV).block k2 (HL.out.1) (HL.out.2))).trans c2
    go_simp
  simp only [Act.put, List.setIfInBounds_toArray, List.set_cons_zero, List.set_cons_succ]
  refine wpAnyH_take (i := 1) (oi := { dst := some 11, op := Op.nilCheck (Operand.tmp 10), type := 0, pos := "queue.go:88", after := #[{ on := 0, ground := Ground.data }], guard := none }) (v := .pointer (some ⟨b, 0, none⟩)) rfl (by kernel_rfl) (by kernel_rfl) (by kernel_rfl) (fun _ _ _ h => h.elim) (Or.inl ⟨by rfl, ?y2⟩) hS0.out ?_
  case y2 =>
    intro V hV
    go_simp
  simp only [Act.put, List.setIfInBounds_toArray, List.set_cons_zero, List.set_cons_succ]
  refine wpAnyH_take (i := 2) (oi := { dst := some 12, op := Op.fieldAddr 54 (Operand.tmp 11) 3, type := 0, pos := "queue.go:88", after := #[{ on := 1, ground := Ground.data }], guard := none }) (v := .pointer (some ⟨b, 3, none⟩)) rfl (by kernel_rfl) (by kernel_rfl) (by kernel_rfl) (fun _ _ _ h => h.elim) (Or.inl ⟨by rfl, ?y3⟩) hS0.out ?_
  case y3 =>
    intro V hV
    go_simp
  simp only [Act.put, List.setIfInBounds_toArray, List.set_cons_zero, List.set_cons_succ]
  refine wpAnyH_take (i := 4) (oi := { dst := some 14, op := Op.load 25 (Operand.tmp 2), type := 25, pos := "queue.go:88", after := #[], guard := none }) (v := .pointer (some ⟨b, 0, none⟩)) rfl (by kernel_rfl) (by kernel_rfl) (by kernel_rfl) (fun _ _ _ h => h.elim) (Or.inl ⟨by rfl, ?y4⟩) hS0.out ?_
  case y4 =>
    intro V hV
    have hc : V.cell? ⟨k2, 0, none⟩ = some (.pointer (some ⟨b, 0, none⟩)) := (World.cell?_of_block (a := ⟨k2, 0, none⟩) ((show Keep (S0) A V from hV).block k2 (HL.out.1) (HL.out.2))).trans c2
    go_simp
  simp only [Act.put, List.setIfInBounds_toArray, List.set_cons_zero, List.set_cons_succ]
  refine wpAnyH_take (i := 5) (oi := { dst := some 15, op := Op.nilCheck (Operand.tmp 14), type := 0, pos := "queue.go:88", after := #[{ on := 4, ground := Ground.data }], guard := none }) (v := .pointer (some ⟨b, 0, none⟩)) rfl (by kernel_rfl) (by kernel_rfl) (by kernel_rfl) (fun _ _ _ h => h.elim) (Or.inl ⟨by rfl, ?y5⟩) hS0.out ?_
  case y5 =>
    intro V hV
    go_simp
  simp only [Act.put, List.setIfInBounds_toArray, List.set_cons_zero, List.set_cons_succ]
  refine wpAnyH_take (i := 6) (oi := { dst := some 16, op := Op.fieldAddr 54 (Operand.tmp 15) 1, type := 0, pos := "queue.go:88", after := #[{ on := 5, ground := Ground.data }], guard := none }) (v := .pointer (some ⟨b, 1, none⟩)) rfl (by kernel_rfl) (by kernel_rfl) (by kernel_rfl) (fun _ _ _ h => h.elim) (Or.inl ⟨by rfl, ?y6⟩) hS0.out ?_
  case y6 =>
    intro V hV
    go_simp
  simp only [Act.put, List.setIfInBounds_toArray, List.set_cons_zero, List.set_cons_succ]
  refine wpAnyH_ready (rs := [3, 7]) (by kernel_rfl) (by simp) (AllReadyH.cons (i := 3) (o := { dst := some 13, op := Op.load 34 (Operand.tmp 12), type := 34, pos := "queue.go:88", after := #[{ on := 2, ground := Ground.data }], guard := none }) rfl ?_ (AllReadyH.cons (i := 7) (o := { dst := some 17, op := Op.load 27 (Operand.tmp 16), type := 27, pos := "queue.go:88", after := #[{ on := 6, ground := Ground.data }], guard := none }) rfl ?_ AllReadyH.nil))
  · intro K1 hK1
    rw [if_pos (by rfl)]
    have hc := HX0.out.1
    go_wp2
    clear hc
    refine hK1.out _ _ hS0.out ?_
    clear hK1
    intro _
    try simp only [Act.put, List.setIfInBounds_toArray, List.set_cons_zero, List.set_cons_succ]
    refine wpAnyH_ready (rs := [7]) (by kernel_rfl) (by simp) (AllReadyH.cons (i := 7) (o := { dst := some 17, op := Op.load 27 (Operand.tmp 16), type := 27, pos := "queue.go:88", after := #[{ on := 6, ground := Ground.data }], guard := none }) rfl ?_ AllReadyH.nil)
    · intro K1 hK1
      rw [if_pos (by rfl)]
      have hc := HX0.out.2.1
      go_wp2
      clear hc
      refine hK1.out _ _ hS0.out ?_
      clear hK1
      intro _
      try simp only [Act.put, List.setIfInBounds_toArray, List.set_cons_zero, List.set_cons_succ]
      refine wpAnyH_take (i := 8) (oi := { dst := some 18, op := Op.indexAddr 27 (Operand.tmp 17) (Operand.const (Value.int IntKind.i64 0)), type := 0, pos := "queue.go:88", after := #[{ on := 7, ground := Ground.data }], guard := none }) (v := .pointer (some ⟨g, 0, none⟩)) rfl (by kernel_rfl) (by kernel_rfl) (by kernel_rfl) (fun _ _ _ h => h.elim) (Or.inl ⟨by rfl, ?y7⟩) hS0.out ?_
      case y7 =>
        intro V hV
        have q1 := HN.out
        have q2 : (0 : Int) < (n : Int) := by omega
        go_simp
      simp only [Act.put, List.setIfInBounds_toArray, List.set_cons_zero, List.set_cons_succ]
      refine wpAnyH_ready (rs := [9]) (by kernel_rfl) (by simp) (AllReadyH.cons (i := 9) (o := { dst := some 19, op := Op.load 3 (Operand.tmp 18), type := 3, pos := "queue.go:88", after := #[{ on := 8, ground := Ground.data }], guard := none }) rfl ?_ AllReadyH.nil)
      · intro K1 hK1
        rw [if_pos (by rfl)]
        have hc := HX0.out.2.2
        go_wp2
        clear hc
        refine hK1.out _ _ hS0.out ?_
        clear hK1
        intro _
        try simp only [Act.put, List.setIfInBounds_toArray, List.set_cons_zero, List.set_cons_succ]
        refine wpAnyH_ready (rs := [10]) (by kernel_rfl) (by simp) (AllReadyH.cons (i := 10) (o := { dst := some 20, op := Op.call { callee := Callee.value (Operand.tmp 13), args := #[Operand.tmp 19], argTypes := #[3] }, type := 33, pos := "queue.go:88", after := #[{ on := 3, ground := Ground.data }, { on := 9, ground := Ground.data }], guard := none }) rfl ?_ AllReadyH.nil)
        · intro K1 hK1
          rw [if_pos (by rfl)]
          have HC := HT
          go_wp2_with fail
          refine HC.mono ?_
          rintro e V1 ⟨r, rfl, hk1, hr1⟩
          dsimp only
          clear HC
          have hS1 : Hid (Keep (S0) A V1) := hk1
          have HR1 : Hid (R r V1) := hr1
          clear hk1 hr1
          refine hK1.out _ _ hS1.out ?_
          clear hK1
          intro _
          try simp only [Act.put, List.setIfInBounds_toArray, List.set_cons_zero, List.set_cons_succ]
          refine wpAnyH_take (i := 11) (oi := { dst := some 4, op := Op.assign (Operand.tmp 20), type := 33, pos := "queue.go:88", after := #[{ on := 10, ground := Ground.data }, { on := 10, ground := Ground.chain }, { on := 0, ground := Ground.phase }, { on := 1, ground := Ground.phase }, { on := 2, ground := Ground.phase }, { on := 3, ground := Ground.phase }, { on := 4, ground := Ground.phase }, { on := 5, ground := Ground.phase }, { on := 6, ground := Ground.phase }, { on := 7, ground := Ground.phase }, { on := 8, ground := Ground.phase }, { on := 9, ground := Ground.phase }, { on := 10, ground := Ground.phase }], guard := none }) (v := iv r) rfl (by kernel_rfl) (by kernel_rfl) (by kernel_rfl) (fun _ _ _ h => h.elim) (Or.inl ⟨by rfl, ?y8⟩) hS1.out ?_
          case y8 =>
            intro V hV
            go_simp
          simp only [Act.put, List.setIfInBounds_toArray, List.set_cons_zero, List.set_cons_succ]
          refine wpAnyH_done (by kernel_rfl) ?_ _
          exact hQ _ _ HR1.out hS1.out
  · intro K1 hK1
    rw [if_pos (by rfl)]
    have hc := HX0.out.2.1
    go_wp2
    clear hc
    refine hK1.out _ _ hS0.out ?_
    clear hK1
    intro _
    try simp only [Act.put, List.setIfInBounds_toArray, List.set_cons_zero, List.set_cons_succ]
    refine wpAnyH_take (i := 8) (oi := { dst := some 18, op := Op.indexAddr 27 (Operand.tmp 17) (Operand.const (Value.int IntKind.i64 0)), type := 0, pos := "queue.go:88", after := #[{ on := 7, ground := Ground.data }], guard := none }) (v := .pointer (some ⟨g, 0, none⟩)) rfl (by kernel_rfl) (by kernel_rfl) (by kernel_rfl) (fun _ _ _ h => h.elim) (Or.inl ⟨by rfl, ?y9⟩) hS0.out ?_
    case y9 =>
      intro V hV
      have q1 := HN.out
      have q2 : (0 : Int) < (n : Int) := by omega
      go_simp
    simp only [Act.put, List.setIfInBounds_toArray, List.set_cons_zero, List.set_cons_succ]
    refine wpAnyH_ready (rs := [3, 9]) (by kernel_rfl) (by simp) (AllReadyH.cons (i := 3) (o := { dst := some 13, op := Op.load 34 (Operand.tmp 12), type := 34, pos := "queue.go:88", after := #[{ on := 2, ground := Ground.data }], guard := none }) rfl ?_ (AllReadyH.cons (i := 9) (o := { dst := some 19, op := Op.load 3 (Operand.tmp 18), type := 3, pos := "queue.go:88", after := #[{ on := 8, ground := Ground.data }], guard := none }) rfl ?_ AllReadyH.nil))
    · intro K1 hK1
      rw [if_pos (by rfl)]
      have hc := HX0.out.1
      go_wp2
      clear hc
      refine hK1.out _ _ hS0.out ?_
      clear hK1
      intro _
      try simp only [Act.put, List.setIfInBounds_toArray, List.set_cons_zero, List.set_cons_succ]
      refine wpAnyH_ready (rs := [9]) (by kernel_rfl) (by simp) (AllReadyH.cons (i := 9) (o := { dst := some 19, op := Op.load 3 (Operand.tmp 18), type := 3, pos := "queue.go:88", after := #[{ on := 8, ground := Ground.data }], guard := none }) rfl ?_ AllReadyH.nil)
      · intro K1 hK1
        rw [if_pos (by rfl)]
        have hc := HX0.out.2.2
        go_wp2
        clear hc
        refine hK1.out _ _ hS0.out ?_
        clear hK1
        intro _
        try simp only [Act.put, List.setIfInBounds_toArray, List.set_cons_zero, List.set_cons_succ]
        refine wpAnyH_ready (rs := [10]) (by kernel_rfl) (by simp) (AllReadyH.cons (i := 10) (o := { dst := some 20, op := Op.call { callee := Callee.value (Operand.tmp 13), args := #[Operand.tmp 19], argTypes := #[3] }, type := 33, pos := "queue.go:88", after := #[{ on := 3, ground := Ground.data }, { on := 9, ground := Ground.data }], guard := none }) rfl ?_ AllReadyH.nil)
        · intro K1 hK1
          rw [if_pos (by rfl)]
          have HC := HT
          go_wp2_with fail
          refine HC.mono ?_
          rintro e V1 ⟨r, rfl, hk1, hr1⟩
          dsimp only
          clear HC
          have hS1 : Hid (Keep (S0) A V1) := hk1
          have HR1 : Hid (R r V1) := hr1
          clear hk1 hr1
          refine hK1.out _ _ hS1.out ?_
          clear hK1
          intro _
          try simp only [Act.put, List.setIfInBounds_toArray, List.set_cons_zero, List.set_cons_succ]
          refine wpAnyH_take (i := 11) (oi := { dst := some 4, op := Op.assign (Operand.tmp 20), type := 33, pos := "queue.go:88", after := #[{ on := 10, ground := Ground.data }, { on := 10, ground := Ground.chain }, { on := 0, ground := Ground.phase }, { on := 1, ground := Ground.phase }, { on := 2, ground := Ground.phase }, { on := 3, ground := Ground.phase }, { on := 4, ground := Ground.phase }, { on := 5, ground := Ground.phase }, { on := 6, ground := Ground.phase }, { on := 7, ground := Ground.phase }, { on := 8, ground := Ground.phase }, { on := 9, ground := Ground.phase }, { on := 10, ground := Ground.phase }], guard := none }) (v := iv r) rfl (by kernel_rfl) (by kernel_rfl) (by kernel_rfl) (fun _ _ _ h => h.elim) (Or.inl ⟨by rfl, ?y10⟩) hS1.out ?_
          case y10 =>
            intro V hV
            go_simp
          simp only [Act.put, List.setIfInBounds_toArray, List.set_cons_zero, List.set_cons_succ]
          refine wpAnyH_done (by kernel_rfl) ?_ _
          exact hQ _ _ HR1.out hS1.out
    · intro K1 hK1
      rw [if_pos (by rfl)]
      have hc := HX0.out.2.2
      go_wp2
      clear hc
      refine hK1.out _ _ hS0.out ?_
      clear hK1
      intro _
      try simp only [Act.put, List.setIfInBounds_toArray, List.set_cons_zero, List.set_cons_succ]
      refine wpAnyH_ready (rs := [3]) (by kernel_rfl) (by simp) (AllReadyH.cons (i := 3) (o := { dst := some 13, op := Op.load 34 (Operand.tmp 12), type := 34, pos := "queue.go:88", after := #[{ on := 2, ground := Ground.data }], guard := none }) rfl ?_ AllReadyH.nil)
      · intro K1 hK1
        rw [if_pos (by rfl)]
        have hc := HX0.out.1
        go_wp2
        clear hc
        refine hK1.out _ _ hS0.out ?_
        clear hK1
        intro _
        try simp only [Act.put, List.setIfInBounds_toArray, List.set_cons_zero, List.set_cons_succ]
        refine wpAnyH_ready (rs := [10]) (by kernel_rfl) (by simp) (AllReadyH.cons (i := 10) (o := { dst := some 20, op := Op.call { callee := Callee.value (Operand.tmp 13), args := #[Operand.tmp 19], argTypes := #[3] }, type := 33, pos := "queue.go:88", after := #[{ on := 3, ground := Ground.data }, { on := 9, ground := Ground.data }], guard := none }) rfl ?_ AllReadyH.nil)
        · intro K1 hK1
          rw [if_pos (by rfl)]
          have HC := HT
          go_wp2_with fail
          refine HC.mono ?_
          rintro e V1 ⟨r, rfl, hk1, hr1⟩
          dsimp only
          clear HC
          have hS1 : Hid (Keep (S0) A V1) := hk1
          have HR1 : Hid (R r V1) := hr1
          clear hk1 hr1
          refine hK1.out _ _ hS1.out ?_
          clear hK1
          intro _
          try simp only [Act.put, List.setIfInBounds_toArray, List.set_cons_zero, List.set_cons_succ]
          refine wpAnyH_take (i := 11) (oi := { dst := some 4, op := Op.assign (Operand.tmp 20), type := 33, pos := "queue.go:88", after := #[{ on := 10, ground := Ground.data }, { on := 10, ground := Ground.chain }, { on := 0, ground := Ground.phase }, { on := 1, ground := Ground.phase }, { on := 2, ground := Ground.phase }, { on := 3, ground := Ground.phase }, { on := 4, ground := Ground.phase }, { on := 5, ground := Ground.phase }, { on := 6, ground := Ground.phase }, { on := 7, ground := Ground.phase }, { on := 8, ground := Ground.phase }, { on := 9, ground := Ground.phase }, { on := 10, ground := Ground.phase }], guard := none }) (v := iv r) rfl (by kernel_rfl) (by kernel_rfl) (by kernel_rfl) (fun _ _ _ h => h.elim) (Or.inl ⟨by rfl, ?y11⟩) hS1.out ?_
          case y11 =>
            intro V hV
            go_simp
          simp only [Act.put, List.setIfInBounds_toArray, List.set_cons_zero, List.set_cons_succ]
          refine wpAnyH_done (by kernel_rfl) ?_ _
          exact hQ _ _ HR1.out hS1.out
#print axioms ans3
end Go.Proofs.Ytipipckbcelphaa.Oct
