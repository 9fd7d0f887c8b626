/-
  Layer 22 (fields): pieceOf of the program.
-/
import Derived.Test.YtlbcpbibcfolkaaDoorApe
namespace Go.Proofs.YtlbcpbibcfolkaaDoor.Oct
open Go.RowKit
set_option linter.unusedSimpArgs false
set_option linter.unusedVariables false

theorem yl_cat {o : Oper} {a : Act} (V : World) (x y : Operand) (s t : BA) (hop : o.op = .binOp .add 9 x y 9) (hx : a.eval x = .string s) (hy : a.eval y = .string t) (hs : s.size ≤ 100000) (ht : t.size ≤ 100000) : (execOp a.eval o).run Tryd.prog V = .ok (.value (.string (s ++ t))) V := by
  unfold execOp
  simp only [hop, hx, hy]
  go_simp
  omega
abbrev eqs : BA := ⟨#[61]⟩
set_option maxRecDepth 100000 in
set_option maxHeartbeats 4000000 in
theorem pc3 {Q : Exit → Act → World → Prop} {x0 x1 x3 x4 x5 x6 x7 x8 x9 x10 x11 x12 x13 x14 x15 x16 x17 x18 x19 x20 x21 x22 x23 x24 x25 x26 x27 x28 x29 x30 x31 : Value} {ds : List Deferred} {A : World} {b : Nat} {k v ek ev : BA}
    (HL : Hid (b < A.heap.size)) (c0 : A.cell? ⟨b, 0, none⟩ = some (.string k)) (c1 : A.cell? ⟨b, 1, none⟩ = some (.string v)) (H1 : Hid (∀ V, Below A.heap.size A V → Calls Tryd.prog 12 #[.string k] V fun e V2 => e = .returned (.string ek) ∧ Below V.heap.size V V2)) (H2 : Hid (∀ V, Below A.heap.size A V → Calls Tryd.prog 12 #[.string v] V fun e V2 => e = .returned (.string ev) ∧ Below V.heap.size V V2)) (HZ : Hid (ek.size ≤ 100000 ∧ (ek ++ eqs).size ≤ 100000 ∧ ev.size ≤ 100000))
    (hQ : ∀ V1, Below A.heap.size A V1 → Q .normal { tmps := #[x0, x1, .pointer (some ⟨b, 0, none⟩), x3, x4, x5, .string (ek ++ eqs ++ ev), x7, x8, x9, x10, x11, x12, x13, x14, x15, x16, x17, x18, .pointer (some ⟨b, 0, none⟩), .string k, .string ek, .string (ek ++ eqs), .pointer (some ⟨b, 1, none⟩), .string v, .string ev, .string (ek ++ eqs ++ ev), x27, x28, x29, x30, x31], defers := ds } V1) :
    (Code.region 3 #[{ dst := some 19, op := Op.fieldAddr 49 (Operand.tmp 2) 0, type := 0, pos := "fields.go:51", after := #[], guard := none }, { dst := some 20, op := Op.load 9 (Operand.tmp 19), type := 9, pos := "fields.go:51", after := #[{ on := 0, ground := Ground.data }], guard := none }, { dst := some 21, op := Op.call { callee := Callee.value (Operand.func 12), args := #[Operand.tmp 20], argTypes := #[9] }, type := 9, pos := "fields.go:51", after := #[{ on := 1, ground := Ground.data }], guard := none }, { dst := some 22, op := Op.binOp BinOp.add 9 (Operand.tmp 21) (Operand.const (Value.string { data := #[61] })) 9, type := 9, pos := "fields.go:51", after := #[{ on := 2, ground := Ground.data }], guard := none }, { dst := some 23, op := Op.fieldAddr 49 (Operand.tmp 2) 1, type := 0, pos := "fields.go:51", after := #[], guard := none }, { dst := some 24, op := Op.load 9 (Operand.tmp 23), type := 9, pos := "fields.go:51", after := #[{ on := 4, ground := Ground.data }], guard := none }, { dst := some 25, op := Op.call { callee := Callee.value (Operand.func 12), args := #[Operand.tmp 24], argTypes := #[9] }, type := 9, pos := "fields.go:51", after := #[{ on := 5, ground := Ground.data }, { on := 2, ground := Ground.chain }], guard := none }, { dst := some 26, op := Op.binOp BinOp.add 9 (Operand.tmp 22) (Operand.tmp 25) 9, type := 9, pos := "fields.go:51", after := #[{ on := 3, ground := Ground.data }, { on := 6, ground := Ground.data }], guard := none }, { dst := some 6, op := Op.assign (Operand.tmp 26), type := 9, pos := "fields.go:51", after := #[{ on := 7, ground := Ground.data }, { on := 6, ground := Ground.chain }, { on := 0, ground := Ground.phase }, { on := 1, ground := Ground.phase }, { on := 2, ground := Ground.phase }, { on := 3, ground := Ground.phase }, { on := 4, ground := Ground.phase }, { on := 5, ground := Ground.phase }, { on := 6, ground := Ground.phase }, { on := 7, ground := Ground.phase }], guard := none }] true).wp Tryd.prog Q { tmps := #[x0, x1, .pointer (some ⟨b, 0, none⟩), x3, x4, x5, x6, x7, x8, x9, x10, x11, x12, x13, x14, x15, x16, x17, x18, x19, x20, x21, x22, x23, x24, x25, x26, x27, x28, x29, x30, x31], defers := ds } A := by
  refine Code.wp_mono (Q := fun x a' w' => match x with | .normal => Q .normal a' w' | _ => False) (by intro x a' w' h; cases x <;> first | exact h | exact h.elim) ?_
  refine wp_region_held (S := fun V => Below A.heap.size A V) (by kernel_rfl) ?_
  have hS0 : Hid (Below A.heap.size A A.drew) := below_drew0 A
  change wpAnyH Tryd.prog .any _ _ (fun V => Below A.heap.size A V) 9 (Array.replicate 9 false) _ A.drew
  obtain ⟨V0, hV0⟩ : ∃ V0, A.drew = V0 := ⟨_, rfl⟩
  rw [hV0]
  rw [hV0] at hS0
  clear hV0
  refine wpAnyH_take (i := 0) (oi := { dst := some 19, op := Op.fieldAddr 49 (Operand.tmp 2) 0, type := 0, pos := "fields.go:51", after := #[], guard := none }) (v := .pointer (some ⟨b, 0, none⟩)) rfl (by kernel_rfl) (by kernel_rfl) (by kernel_rfl) (fun _ _ _ h => h.elim) (Or.inl ⟨by rfl, ?y1⟩) hS0.out ?_
  case y1 =>
    intro V hV
    go_simp
  simp only [Act.put, List.setIfInBounds_toArray, List.set_cons_zero, List.set_cons_succ]
  refine wpAnyH_take (i := 1) (oi := { dst := some 20, op := Op.load 9 (Operand.tmp 19), type := 9, pos := "fields.go:51", after := #[{ on := 0, ground := Ground.data }], guard := none }) (v := .string k) rfl (by kernel_rfl) (by kernel_rfl) (by kernel_rfl) (fun _ _ _ h => h.elim) (Or.inl ⟨by rfl, ?y2⟩) hS0.out ?_
  case y2 =>
    intro V hV
    have hc : V.cell? ⟨b, 0, none⟩ = some (.string k) := ((show Below A.heap.size A V from hV).cell (p := ⟨b, 0, none⟩) HL.out).trans c0
    go_simp
  simp only [Act.put, List.setIfInBounds_toArray, List.set_cons_zero, List.set_cons_succ]
  refine wpAnyH_take (i := 4) (oi := { dst := some 23, op := Op.fieldAddr 49 (Operand.tmp 2) 1, type := 0, pos := "fields.go:51", after := #[], guard := none }) (v := .pointer (some ⟨b, 1, none⟩)) rfl (by kernel_rfl) (by kernel_rfl) (by kernel_rfl) (fun _ _ _ h => h.elim) (Or.inl ⟨by rfl, ?y3⟩) hS0.out ?_
  case y3 =>
    intro V hV
    go_simp
  simp only [Act.put, List.setIfInBounds_toArray, List.set_cons_zero, List.set_cons_succ]
  refine wpAnyH_take (i := 5) (oi := { dst := some 24, op := Op.load 9 (Operand.tmp 23), type := 9, pos := "fields.go:51", after := #[{ on := 4, ground := Ground.data }], guard := none }) (v := .string v) rfl (by kernel_rfl) (by kernel_rfl) (by kernel_rfl) (fun _ _ _ h => h.elim) (Or.inl ⟨by rfl, ?y4⟩) hS0.out ?_
  case y4 =>
    intro V hV
    have hc : V.cell? ⟨b, 1, none⟩ = some (.string v) := ((show Below A.heap.size A V from hV).cell (p := ⟨b, 1, none⟩) HL.out).trans c1
    go_simp
  simp only [Act.put, List.setIfInBounds_toArray, List.set_cons_zero, List.set_cons_succ]
  refine wpAnyH_ready (rs := [2]) (by kernel_rfl) (by simp) (AllReadyH.cons (i := 2) (o := { dst := some 21, op := Op.call { callee := Callee.value (Operand.func 12), args := #[Operand.tmp 20], argTypes := #[9] }, type := 9, pos := "fields.go:51", after := #[{ on := 1, ground := Ground.data }], guard := none }) rfl ?_ AllReadyH.nil)
  · intro K1 hK1
    rw [if_pos (by rfl)]
    have HC1 := H1.out V0 hS0.out
    go_wp2_with fail
    refine HC1.mono ?_
    rintro e V1 ⟨rfl, hb1⟩
    dsimp only
    clear HC1
    have hS1 : Hid (Below A.heap.size A V1) := hS0.out.trans (hb1.mono hS0.out.size)
    clear hb1
    refine hK1.out _ _ hS1.out ?_
    clear hK1
    intro _
    try simp only [Act.put, List.setIfInBounds_toArray, List.set_cons_zero, List.set_cons_succ]
    refine wpAnyH_take (i := 3) (oi := { dst := some 22, op := Op.binOp BinOp.add 9 (Operand.tmp 21) (Operand.const (Value.string { data := #[61] })) 9, type := 9, pos := "fields.go:51", after := #[{ on := 2, ground := Ground.data }], guard := none }) (v := .string (ek ++ eqs)) rfl (by kernel_rfl) (by kernel_rfl) (by kernel_rfl) (fun _ _ _ h => h.elim) (Or.inl ⟨by rfl, ?y5⟩) hS1.out ?_
    case y5 =>
      intro V hV
      exact yl_cat V _ _ ek eqs rfl rfl rfl HZ.out.1 (by decide)
    simp only [Act.put, List.setIfInBounds_toArray, List.set_cons_zero, List.set_cons_succ]
    refine wpAnyH_ready (rs := [6]) (by kernel_rfl) (by simp) (AllReadyH.cons (i := 6) (o := { dst := some 25, op := Op.call { callee := Callee.value (Operand.func 12), args := #[Operand.tmp 24], argTypes := #[9] }, type := 9, pos := "fields.go:51", after := #[{ on := 5, ground := Ground.data }, { on := 2, ground := Ground.chain }], guard := none }) rfl ?_ AllReadyH.nil)
    · intro K1 hK1
      rw [if_pos (by rfl)]
      have HC2 := H2.out V1 hS1.out
      go_wp2_with fail
      refine HC2.mono ?_
      rintro e V2 ⟨rfl, hb2⟩
      dsimp only
      clear HC2
      have hS2 : Hid (Below A.heap.size A V2) := hS1.out.trans (hb2.mono hS1.out.size)
      clear hb2
      refine hK1.out _ _ hS2.out ?_
      clear hK1
      intro _
      try simp only [Act.put, List.setIfInBounds_toArray, List.set_cons_zero, List.set_cons_succ]
      refine wpAnyH_take (i := 7) (oi := { dst := some 26, op := Op.binOp BinOp.add 9 (Operand.tmp 22) (Operand.tmp 25) 9, type := 9, pos := "fields.go:51", after := #[{ on := 3, ground := Ground.data }, { on := 6, ground := Ground.data }], guard := none }) (v := .string (ek ++ eqs ++ ev)) rfl (by kernel_rfl) (by kernel_rfl) (by kernel_rfl) (fun _ _ _ h => h.elim) (Or.inl ⟨by rfl, ?y6⟩) hS2.out ?_
      case y6 =>
        intro V hV
        exact yl_cat V _ _ (ek ++ eqs) ev rfl rfl rfl HZ.out.2.1 HZ.out.2.2
      simp only [Act.put, List.setIfInBounds_toArray, List.set_cons_zero, List.set_cons_succ]
      refine wpAnyH_take (i := 8) (oi := { dst := some 6, op := Op.assign (Operand.tmp 26), type := 9, pos := "fields.go:51", after := #[{ on := 7, ground := Ground.data }, { on := 6, ground := Ground.chain }, { on := 0, ground := Ground.phase }, { on := 1, ground := Ground.phase }, { on := 2, ground := Ground.phase }, { on := 3, ground := Ground.phase }, { on := 4, ground := Ground.phase }, { on := 5, ground := Ground.phase }, { on := 6, ground := Ground.phase }, { on := 7, ground := Ground.phase }], guard := none }) (v := .string (ek ++ eqs ++ ev)) rfl (by kernel_rfl) (by kernel_rfl) (by kernel_rfl) (fun _ _ _ h => h.elim) (Or.inl ⟨by rfl, ?y7⟩) hS2.out ?_
      case y7 =>
        intro V hV
        go_simp
      simp only [Act.put, List.setIfInBounds_toArray, List.set_cons_zero, List.set_cons_succ]
      refine wpAnyH_done (by kernel_rfl) ?_ _
      exact hQ V2 hS2.out
#print axioms pc3
/-- how many bytes a piece has -/
def pcN (k v : BA) : Nat := (escL k.data.toList).length + 1 + (escL v.data.toList).length
def pcS (k v : BA) : BA := ⟨(escL k.data.toList ++ 61 :: escL v.data.toList).toArray⟩
theorem pcS_is (k v : BA) : (⟨(escL k.data.toList).toArray⟩ ++ eqs ++ ⟨(escL v.data.toList).toArray⟩ : BA) = pcS k v := by
  refine ba_ext ?_
  simp [pcS, ByteArray.data_append]
theorem pcS_size (k v : BA) : (pcS k v).size = pcN k v := by
  show (escL k.data.toList ++ 61 :: escL v.data.toList).toArray.size = _
  simp [pcN]
  omega
set_option maxRecDepth 100000 in
set_option maxHeartbeats 1000000 in
theorem piece_long (k v : BA) (hk : k.size ≤ 140737488355328) (hv : v.size ≤ 140737488355328) (room : Int) (hr : room ≤ 16384) (h : room < (k.size : Int) ∨ room < (v.size : Int)) (w : World) : Calls Tryd.prog 30 #[.agg #[.string k, .string v], iv room] w fun e w' => (∃ x, e = .returned (.tuple #[.string x, .bool false])) ∧ Below w.heap.size w w' := by
  obtain ⟨b, hb⟩ : ∃ b, w.heap.size = b := ⟨_, rfl⟩
  obtain ⟨A, hA⟩ : ∃ A, w.alloc (.cells #[.string k, .string v] 49) = A := ⟨_, rfl⟩
  have hbA : Below w.heap.size w A := by rw [← hA]; exact below_al _ _
  have hk1 : Blk A b 49 [.string k, .string v] := by rw [← hA, ← hb]; exact Blk.new w _ _
  have c0 : A.cell? ⟨b, 0, none⟩ = some (.string k) := hk1.cell rfl
  have c1 : A.cell? ⟨b, 1, none⟩ = some (.string v) := hk1.cell rfl
  have HF : Hid (Below w.heap.size w A) := hbA
  have q1 : (k.size : Int) ≤ 140737488355328 := by omega
  have q2 : (v.size : Int) ≤ 140737488355328 := by omega
  clear hbA hk1 hk hv
  by_cases h1 : room < (k.size : Int)
  · clear h
    go_enter Tryd.func30, Tryd.ntmps30
    go_wp2
    go_ret2
    exact ⟨⟨_, rfl⟩, HF.out⟩
  · have h2 : room < (v.size : Int) := by omega
    have h3 : (k.size : Int) ≤ room := by omega
    clear h h1
    go_enter Tryd.func30, Tryd.ntmps30
    go_wp2
    go_ret2
    exact ⟨⟨_, rfl⟩, HF.out⟩
#print axioms piece_long
set_option maxRecDepth 100000 in
set_option maxHeartbeats 1000000 in
theorem piece_short (k v : BA) (room : Int) (hr : room ≤ 16384) (h1 : (k.size : Int) ≤ room) (h2 : (v.size : Int) ≤ room) (w : World) : Calls Tryd.prog 30 #[.agg #[.string k, .string v], iv room] w fun e w' => e = .returned (.tuple #[.string (pcS k v), .bool (decide ((pcN k v : Int) ≤ room))]) ∧ Below w.heap.size w w' := by
  obtain ⟨b, hb⟩ : ∃ b, w.heap.size = b := ⟨_, rfl⟩
  obtain ⟨A, hA⟩ : ∃ A, w.alloc (.cells #[.string k, .string v] 49) = A := ⟨_, rfl⟩
  have hbA : Below w.heap.size w A := by rw [← hA]; exact below_al _ _
  have hk1 : Blk A b 49 [.string k, .string v] := by rw [← hA, ← hb]; exact Blk.new w _ _
  have c0 : A.cell? ⟨b, 0, none⟩ = some (.string k) := hk1.cell rfl
  have c1 : A.cell? ⟨b, 1, none⟩ = some (.string v) := hk1.cell rfl
  have hn1 := (escL_len k.data.toList).2
  have hn2 := (escL_len v.data.toList).2
  have l1 : k.data.toList.length = k.size := rfl
  have l2 : v.data.toList.length = v.size := rfl
  have HF : Hid (Below w.heap.size w A ∧ b < A.heap.size ∧ k.size ≤ 20000000 ∧ v.size ≤ 20000000) := ⟨hbA, hk1.lt, by omega, by omega⟩
  obtain ⟨ek, hek⟩ : ∃ e : BA, ⟨(escL k.data.toList).toArray⟩ = e := ⟨_, rfl⟩
  obtain ⟨ev, hev⟩ : ∃ e : BA, ⟨(escL v.data.toList).toArray⟩ = e := ⟨_, rfl⟩
  have z1 : ek.size = (escL k.data.toList).length := by rw [← hek]; exact List.size_toArray ..
  have z2 : ev.size = (escL v.data.toList).length := by rw [← hev]; exact List.size_toArray ..
  have z3 : eqs.size = 1 := rfl
  have HZ : Hid (ek.size ≤ 100000 ∧ (ek ++ eqs).size ≤ 100000 ∧ ev.size ≤ 100000) := ⟨by omega, by rw [ByteArray.size_append]; omega, by omega⟩
  obtain ⟨S, hS⟩ : ∃ S, ek ++ eqs ++ ev = S := ⟨_, rfl⟩
  have HE : Hid ((⟨(escL k.data.toList).toArray⟩ : BA) = ek ∧ (⟨(escL v.data.toList).toArray⟩ : BA) = ev ∧ pcS k v = S) := ⟨hek, hev, by rw [← hS, ← hek, ← hev]; exact (pcS_is k v).symm⟩
  have zS : S.size = pcN k v := by rw [← HE.out.2.2]; exact pcS_size k v
  have qS : (S.size : Int) = (pcN k v : Int) := by omega
  have qS2 : (pcN k v : Int) ≤ 200000 := by rw [← qS, zS]; unfold pcN; omega
  rw [HE.out.2.2]
  generalize pcN k v = M at *
  clear hbA hk1 hn1 hn2 l1 l2 hek hev z1 z2 z3 zS
  go_enter Tryd.func30, Tryd.ntmps30
  go_wp2_with fail
  refine pc3 (ek := ek) (ev := ev) HF.out.2.1 c0 c1 (fun V _ => by rw [← HE.out.1]; exact escape_is k HF.out.2.2.1 V) (fun V _ => by rw [← HE.out.2.1]; exact escape_is v HF.out.2.2.2 V) HZ.out ?_
  intro V hV
  have HV : Hid (Below w.heap.size w V) := below_tr HF.out.1 hV
  rw [hS]
  clear hV hS
  go_wp2
  go_ret2
  refine ⟨?_, HV.out⟩
  rfl
#print axioms piece_short
end Go.Proofs.YtlbcpbibcfolkaaDoor.Oct
