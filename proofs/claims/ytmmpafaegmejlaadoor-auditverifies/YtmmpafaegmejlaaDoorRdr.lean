/-
  Layer 19 (audit): the reference's Digest: its drawn regions.
-/
import Derived.Test.YtmmpafaegmejlaaDoorTnd
import Derived.Test.YtmmpafaegmejlaaDoorORef
import Derived.Test.YtmmpafaegmejlaaDoorRefIs
namespace Go.Proofs.YtmmpafaegmejlaaDoor.Oct
open Go.RowKit Sha
set_option linter.unusedSimpArgs false
set_option linter.unusedVariables false

theorem from0_is (x S : Int) (hS : max x 0 = S) (h : x ≤ 9223372036854775807) (w : World) : Calls Tryd.prog 34 #[iv x] w fun e w' => e = .returned (.int .u64 S) ∧ w = w' := by
  by_cases hx : x < 0
  · obtain rfl : S = 0 := by omega
    go_enter Tryd.func34, Tryd.ntmps34
    go_wp2
    go_ret
    exact ⟨rfl, rfl⟩
  · obtain rfl : S = x := by omega
    have q1 : 0 ≤ S := by omega
    clear hx hS
    go_enter Tryd.func34, Tryd.ntmps34
    go_wp2
    go_ret
    exact ⟨rfl, rfl⟩
#print axioms from0_is
/-- bytes that a call made -/
def Mk (w w' : World) (e : Ending) (m : Nat) (L : List UInt8) : Prop :=
  ∃ g c, e = .returned (.slice (some ⟨g, 0, none⟩) m c) ∧ Hid (In w' (some ⟨g, 0, none⟩) m c L ∧ w'.ownsRow w.heap.size 5 1 (.slice (some ⟨g, 0, none⟩) m c) m (U L)) ∧ Below w.heap.size w w'
theorem mk_own {w w' : World} {v : Value} {m : Nat} {L : List UInt8} (hm : L.length = m) (hp : 0 < m) (hm2 : m ≤ 140737488355328) (ho : Own 5 w.heap.size w' v L) (hb : Below w.heap.size w w') : Mk w w' (.returned v) m L := by
  obtain ⟨g, c, rfl, _⟩ := ho.shape (by omega)
  have hi := ho.toIn (by omega)
  have hr := own_size hm ho
  rw [hm] at hi hr ⊢
  exact ⟨g, c, rfl, ⟨hi, hr⟩, hb⟩
theorem enc_len_pos (n : Nat) : 0 < (enc n).length := by
  exact enc_pos n
theorem refPutN {a : Option Addr} {len cap : Nat} {l : List UInt8} (n : Int) {w : World} (hin : In w a len cap l) (h0 : 0 ≤ n) (h1 : n ≤ 18446744073709551615) (hl : len ≤ 1000000) (L : List UInt8) (hL : l ++ enc n.toNat = L) (m : Nat) (hm : L.length = m) :
    Calls Tryd.prog 33 #[.slice a len cap, .int .u64 n] w fun e w' => Mk w w' e m L := by
  refine (refPut a len cap l n w hin h0 h1 hl).mono ?_
  rintro e w' ⟨v, rfl, ho, hb⟩
  rw [hL] at ho
  have hz : m = len + (enc n.toNat).length := by rw [← hm, ← hL, List.length_append, hin.1]
  have := enc_len_pos n.toNat
  have h2 := enc_le n.toNat (by omega)
  exact mk_own hm (by omega) (by omega) ho hb
theorem refTextN {a : Option Addr} {len cap : Nat} {l : List UInt8} (s : ByteArray) {w : World} (hin : In w a len cap l) (hl : len + s.size ≤ 1000000) (L : List UInt8) (hL : l ++ enc s.size ++ s.data.toList = L) (m : Nat) (hm : L.length = m) :
    Calls Tryd.prog 35 #[.slice a len cap, .string s] w fun e w' => Mk w w' e m L := by
  refine (refPutText a len cap l s w hin hl).mono ?_
  rintro e w' ⟨v, rfl, ho, hb⟩
  rw [hL] at ho
  have hz : m = len + (enc s.size).length + s.size := by rw [← hm, ← hL, List.length_append, List.length_append, hin.1]; rfl
  have := enc_len_pos s.size
  have h2 := enc_le s.size (by omega)
  exact mk_own hm (by omega) (by omega) ho hb
set_option maxRecDepth 100000 in
set_option maxHeartbeats 4000000 in
theorem rd1 {Q : Exit → Act → World → Prop} {x0 x2 x3 x4 x5 x6 x7 x8 x9 x10 x11 x12 x13 x14 x15 x16 x17 x18 x19 x20 x21 x22 x23 : Value} {ds : List Deferred} {A : World} {b n1 n2 : Nat} {sq tk S T : Int} {l1 l2 : List UInt8}
    (HL : Hid (b < A.heap.size)) (k0 : A.cell? ⟨b, 0, none⟩ = some (iv sq)) (k1 : A.cell? ⟨b, 1, none⟩ = some (iv tk)) (HF1 : Hid (∀ V, Calls Tryd.prog 34 #[iv sq] V fun e V2 => e = .returned (.int .u64 S) ∧ V = V2)) (HF2 : Hid (∀ V, Calls Tryd.prog 34 #[iv tk] V fun e V2 => e = .returned (.int .u64 T) ∧ V = V2)) (HP1 : Hid (∀ V, Calls Tryd.prog 33 #[.slice none 0 0, .int .u64 S] V fun e V2 => Mk V V2 e n1 l1)) (HP2 : Hid (∀ V g c, In V (some ⟨g, 0, none⟩) n1 c l1 → Calls Tryd.prog 33 #[.slice (some ⟨g, 0, none⟩) n1 c, .int .u64 T] V fun e V2 => Mk V V2 e n2 l2))
    (hQ : ∀ V1 g1 c1 g2 c2, Below A.heap.size A V1 → In V1 (some ⟨g2, 0, none⟩) n2 c2 l2 → Q .normal { tmps := #[x0, .pointer (some ⟨b, 0, none⟩), x2, .slice (some ⟨g2, 0, none⟩) n2 c2, .pointer (some ⟨b, 0, none⟩), iv sq, .int .u64 S, .slice (some ⟨g1, 0, none⟩) n1 c1, .pointer (some ⟨b, 1, none⟩), iv tk, .int .u64 T, .slice (some ⟨g2, 0, none⟩) n2 c2, x12, x13, x14, x15, x16, x17, x18, x19, x20, x21, x22, x23], defers := ds } V1) :
    (Code.region 1 #[{ dst := some 4, op := Op.fieldAddr 37 (Operand.tmp 1) 0, type := 0, pos := "ref.go:31", after := #[], guard := none }, { dst := some 5, op := Op.load 3 (Operand.tmp 4), type := 3, pos := "ref.go:31", after := #[{ on := 0, ground := Ground.data }], guard := none }, { dst := some 6, op := Op.call { callee := Callee.value (Operand.func 34), args := #[Operand.tmp 5], argTypes := #[3] }, type := 62, pos := "ref.go:31", after := #[{ on := 1, ground := Ground.data }], guard := none }, { dst := some 7, op := Op.call { callee := Callee.value (Operand.func 33), args := #[Operand.const (Value.slice none 0 0), Operand.tmp 6], argTypes := #[60, 62] }, type := 60, pos := "ref.go:31", after := #[{ on := 2, ground := Ground.data }, { on := 2, ground := Ground.chain }], guard := none }, { dst := some 8, op := Op.fieldAddr 37 (Operand.tmp 1) 1, type := 0, pos := "ref.go:31", after := #[], guard := none }, { dst := some 9, op := Op.load 3 (Operand.tmp 8), type := 3, pos := "ref.go:31", after := #[{ on := 4, ground := Ground.data }], guard := none }, { dst := some 10, op := Op.call { callee := Callee.value (Operand.func 34), args := #[Operand.tmp 9], argTypes := #[3] }, type := 62, pos := "ref.go:31", after := #[{ on := 5, ground := Ground.data }, { on := 3, ground := Ground.chain }], guard := none }, { dst := some 11, op := Op.call { callee := Callee.value (Operand.func 33), args := #[Operand.tmp 7, Operand.tmp 10], argTypes := #[60, 62] }, type := 60, pos := "ref.go:31", after := #[{ on := 3, ground := Ground.data }, { on := 6, ground := Ground.data }, { on := 6, ground := Ground.chain }], guard := none }, { dst := some 3, op := Op.assign (Operand.tmp 11), type := 60, pos := "ref.go:31", after := #[{ on := 7, ground := Ground.data }, { on := 7, ground := Ground.chain }, { on := 0, ground := Ground.phase }, { on := 1, ground := Ground.phase }, { on := 2, ground := Ground.phase }, { on := 3, ground := Ground.phase }, { on := 4, ground := Ground.phase }, { on := 5, ground := Ground.phase }, { on := 6, ground := Ground.phase }, { on := 7, ground := Ground.phase }], guard := none }] true).wp Tryd.prog Q { tmps := #[x0, .pointer (some ⟨b, 0, none⟩), x2, x3, x4, x5, x6, x7, x8, x9, x10, x11, x12, x13, x14, x15, x16, x17, x18, x19, x20, x21, x22, x23], defers := ds } A := by
  refine Code.wp_mono (Q := fun x a' w' => match x with | .normal => Q .normal a' w' | _ => False) (by intro x a' w' h; cases x <;> first | exact h | exact h.elim) ?_
  refine wp_region_held (S := fun V => Below A.heap.size A V) (by kernel_rfl) ?_
  have hS0 : Hid (Below A.heap.size A A.drew) := below_drew0 A
  change wpAnyH Tryd.prog .any _ _ (fun V => Below A.heap.size A V) 9 (Array.replicate 9 false) _ A.drew
  obtain ⟨V0, hV0⟩ : ∃ V0, A.drew = V0 := ⟨_, rfl⟩
  rw [hV0]
  rw [hV0] at hS0
  clear hV0
  refine wpAnyH_take (i := 0) (oi := { dst := some 4, op := Op.fieldAddr 37 (Operand.tmp 1) 0, type := 0, pos := "ref.go:31", after := #[], guard := none }) (v := .pointer (some ⟨b, 0, none⟩)) rfl (by kernel_rfl) (by kernel_rfl) (by kernel_rfl) (fun _ _ _ h => h.elim) (Or.inl ⟨by rfl, ?y1⟩) hS0.out ?_
  case y1 =>
    intro V hV
    go_simp
  simp only [Act.put, List.setIfInBounds_toArray, List.set_cons_zero, List.set_cons_succ]
  refine wpAnyH_take (i := 1) (oi := { dst := some 5, op := Op.load 3 (Operand.tmp 4), type := 3, pos := "ref.go:31", after := #[{ on := 0, ground := Ground.data }], guard := none }) (v := iv sq) rfl (by kernel_rfl) (by kernel_rfl) (by kernel_rfl) (fun _ _ _ h => h.elim) (Or.inl ⟨by rfl, ?y2⟩) hS0.out ?_
  case y2 =>
    intro V hV
    have hc : V.cell? ⟨b, 0, none⟩ = some (iv sq) := ((show Below A.heap.size A V from hV).cell (p := ⟨b, 0, none⟩) HL.out).trans k0
    go_simp
  simp only [Act.put, List.setIfInBounds_toArray, List.set_cons_zero, List.set_cons_succ]
  refine wpAnyH_take (i := 4) (oi := { dst := some 8, op := Op.fieldAddr 37 (Operand.tmp 1) 1, type := 0, pos := "ref.go:31", after := #[], guard := none }) (v := .pointer (some ⟨b, 1, none⟩)) rfl (by kernel_rfl) (by kernel_rfl) (by kernel_rfl) (fun _ _ _ h => h.elim) (Or.inl ⟨by rfl, ?y3⟩) hS0.out ?_
  case y3 =>
    intro V hV
    go_simp
  simp only [Act.put, List.setIfInBounds_toArray, List.set_cons_zero, List.set_cons_succ]
  refine wpAnyH_take (i := 5) (oi := { dst := some 9, op := Op.load 3 (Operand.tmp 8), type := 3, pos := "ref.go:31", after := #[{ on := 4, ground := Ground.data }], guard := none }) (v := iv tk) rfl (by kernel_rfl) (by kernel_rfl) (by kernel_rfl) (fun _ _ _ h => h.elim) (Or.inl ⟨by rfl, ?y4⟩) hS0.out ?_
  case y4 =>
    intro V hV
    have hc : V.cell? ⟨b, 1, none⟩ = some (iv tk) := ((show Below A.heap.size A V from hV).cell (p := ⟨b, 1, none⟩) HL.out).trans k1
    go_simp
  simp only [Act.put, List.setIfInBounds_toArray, List.set_cons_zero, List.set_cons_succ]
  refine wpAnyH_ready (rs := [2]) (by kernel_rfl) (by simp) (AllReadyH.cons (i := 2) (o := { dst := some 6, op := Op.call { callee := Callee.value (Operand.func 34), args := #[Operand.tmp 5], argTypes := #[3] }, type := 62, pos := "ref.go:31", after := #[{ on := 1, ground := Ground.data }], guard := none }) rfl ?_ AllReadyH.nil)
  · intro K1 hK1
    rw [if_pos (by rfl)]
    have HC1 := HF1.out V0
    go_wp2_with fail
    refine HC1.mono ?_
    rintro e V1 ⟨rfl, rfl⟩
    dsimp only
    clear HC1
    refine hK1.out _ _ hS0.out ?_
    clear hK1
    intro _
    try simp only [Act.put, List.setIfInBounds_toArray, List.set_cons_zero, List.set_cons_succ]
    refine wpAnyH_ready (rs := [3]) (by kernel_rfl) (by simp) (AllReadyH.cons (i := 3) (o := { dst := some 7, op := Op.call { callee := Callee.value (Operand.func 33), args := #[Operand.const (Value.slice none 0 0), Operand.tmp 6], argTypes := #[60, 62] }, type := 60, pos := "ref.go:31", after := #[{ on := 2, ground := Ground.data }, { on := 2, ground := Ground.chain }], guard := none }) rfl ?_ AllReadyH.nil)
    · intro K1 hK1
      rw [if_pos (by rfl)]
      have HC2 := HP1.out V0 
      go_wp2_with fail
      refine HC2.mono ?_
      rintro e V2 ⟨g1, c1, rfl, hI1, hb2⟩
      dsimp only
      clear HC2
      have hS2 : Hid (Below A.heap.size A V2) := hS0.out.trans (hb2.mono hS0.out.size)
      have hO1 : Hid (A.heap.size ≤ V0.heap.size) := hS0.out.size
      clear hb2
      refine hK1.out _ _ hS2.out ?_
      clear hK1
      intro _
      try simp only [Act.put, List.setIfInBounds_toArray, List.set_cons_zero, List.set_cons_succ]
      refine wpAnyH_ready (rs := [6]) (by kernel_rfl) (by simp) (AllReadyH.cons (i := 6) (o := { dst := some 10, op := Op.call { callee := Callee.value (Operand.func 34), args := #[Operand.tmp 9], argTypes := #[3] }, type := 62, pos := "ref.go:31", after := #[{ on := 5, ground := Ground.data }, { on := 3, ground := Ground.chain }], guard := none }) rfl ?_ AllReadyH.nil)
      · intro K1 hK1
        rw [if_pos (by rfl)]
        have HC3 := HF2.out V2
        go_wp2_with fail
        refine HC3.mono ?_
        rintro e V3 ⟨rfl, rfl⟩
        dsimp only
        clear HC3
        refine hK1.out _ _ hS2.out ?_
        clear hK1
        intro _
        try simp only [Act.put, List.setIfInBounds_toArray, List.set_cons_zero, List.set_cons_succ]
        refine wpAnyH_ready (rs := [7]) (by kernel_rfl) (by simp) (AllReadyH.cons (i := 7) (o := { dst := some 11, op := Op.call { callee := Callee.value (Operand.func 33), args := #[Operand.tmp 7, Operand.tmp 10], argTypes := #[60, 62] }, type := 60, pos := "ref.go:31", after := #[{ on := 3, ground := Ground.data }, { on := 6, ground := Ground.data }, { on := 6, ground := Ground.chain }], guard := none }) rfl ?_ AllReadyH.nil)
        · intro K1 hK1
          rw [if_pos (by rfl)]
          have HC4 := HP2.out V2 _ _ hI1.out.1
          go_wp2_with fail
          refine HC4.mono ?_
          rintro e V4 ⟨g2, c2, rfl, hI2, hb4⟩
          dsimp only
          clear HC4
          have hS4 : Hid (Below A.heap.size A V4) := hS2.out.trans (hb4.mono hS2.out.size)
          have hO2 : Hid (A.heap.size ≤ V2.heap.size) := hS2.out.size
          clear hb4
          refine hK1.out _ _ hS4.out ?_
          clear hK1
          intro _
          try simp only [Act.put, List.setIfInBounds_toArray, List.set_cons_zero, List.set_cons_succ]
          refine wpAnyH_take (i := 8) (oi := { dst := some 3, op := Op.assign (Operand.tmp 11), type := 60, pos := "ref.go:31", after := #[{ on := 7, ground := Ground.data }, { on := 7, ground := Ground.chain }, { on := 0, ground := Ground.phase }, { on := 1, ground := Ground.phase }, { on := 2, ground := Ground.phase }, { on := 3, ground := Ground.phase }, { on := 4, ground := Ground.phase }, { on := 5, ground := Ground.phase }, { on := 6, ground := Ground.phase }, { on := 7, ground := Ground.phase }], guard := none }) (v := .slice (some ⟨g2, 0, none⟩) n2 c2) rfl (by kernel_rfl) (by kernel_rfl) (by kernel_rfl) (fun _ _ _ h => h.elim) (Or.inl ⟨by rfl, ?y5⟩) hS4.out ?_
          case y5 =>
            intro V hV
            go_simp
          simp only [Act.put, List.setIfInBounds_toArray, List.set_cons_zero, List.set_cons_succ]
          refine wpAnyH_done (by kernel_rfl) ?_ _
          exact hQ V4 _ _ _ _ hS4.out hI2.out.1
#print axioms rd1
set_option maxRecDepth 100000 in
set_option maxHeartbeats 4000000 in
theorem rd2 {Q : Exit → Act → World → Prop} {x0 x2 x4 x5 x6 x7 x8 x9 x10 x11 x12 x13 x14 x15 x16 x17 x18 x19 x20 x21 x22 x23 : Value} {ds : List Deferred} {A : World} {b g2 c2 n2 n3 n4 : Nat} {wo wa : ByteArray} {l2 l3 l4 : List UInt8}
    (HL : Hid (b < A.heap.size)) (k2 : A.cell? ⟨b, 2, none⟩ = some (.string wo)) (k3 : A.cell? ⟨b, 3, none⟩ = some (.string wa)) (HI : Hid (In A (some ⟨g2, 0, none⟩) n2 c2 l2)) (HT1 : Hid (∀ V g c, In V (some ⟨g, 0, none⟩) n2 c l2 → Calls Tryd.prog 35 #[.slice (some ⟨g, 0, none⟩) n2 c, .string wo] V fun e V2 => Mk V V2 e n3 l3)) (HT2 : Hid (∀ V g c, In V (some ⟨g, 0, none⟩) n3 c l3 → Calls Tryd.prog 35 #[.slice (some ⟨g, 0, none⟩) n3 c, .string wa] V fun e V2 => Mk V V2 e n4 l4))
    (hQ : ∀ (V1 V0 : World) (g3 c3 g4 c4 : Nat), Below A.heap.size A V1 → V1.ownsRow V0.heap.size 5 1 (.slice (some ⟨g4, 0, none⟩) n4 c4) n4 (U l4) → A.heap.size ≤ V0.heap.size → Q .normal { tmps := #[x0, .pointer (some ⟨b, 0, none⟩), x2, .slice (some ⟨g4, 0, none⟩) n4 c4, x4, x5, x6, x7, x8, x9, x10, x11, .slice (some ⟨g2, 0, none⟩) n2 c2, .pointer (some ⟨b, 2, none⟩), .string wo, .slice (some ⟨g3, 0, none⟩) n3 c3, .pointer (some ⟨b, 3, none⟩), .string wa, .slice (some ⟨g4, 0, none⟩) n4 c4, x19, x20, x21, x22, x23], defers := ds } V1) :
    (Code.region 2 #[{ dst := some 12, op := Op.move (Operand.tmp 3), type := 60, pos := "ref.go:32", after := #[], guard := none }, { dst := some 13, op := Op.fieldAddr 37 (Operand.tmp 1) 2, type := 0, pos := "ref.go:32", after := #[], guard := none }, { dst := some 14, op := Op.load 9 (Operand.tmp 13), type := 9, pos := "ref.go:32", after := #[{ on := 1, ground := Ground.data }], guard := none }, { dst := some 15, op := Op.call { callee := Callee.value (Operand.func 35), args := #[Operand.tmp 12, Operand.tmp 14], argTypes := #[60, 9] }, type := 60, pos := "ref.go:32", after := #[{ on := 0, ground := Ground.data }, { on := 2, ground := Ground.data }], guard := none }, { dst := some 16, op := Op.fieldAddr 37 (Operand.tmp 1) 3, type := 0, pos := "ref.go:32", after := #[], guard := none }, { dst := some 17, op := Op.load 9 (Operand.tmp 16), type := 9, pos := "ref.go:32", after := #[{ on := 4, ground := Ground.data }], guard := none }, { dst := some 18, op := Op.call { callee := Callee.value (Operand.func 35), args := #[Operand.tmp 15, Operand.tmp 17], argTypes := #[60, 9] }, type := 60, pos := "ref.go:32", after := #[{ on := 3, ground := Ground.data }, { on := 5, ground := Ground.data }, { on := 3, ground := Ground.chain }], guard := none }, { dst := some 3, op := Op.assign (Operand.tmp 18), type := 60, pos := "ref.go:32", after := #[{ on := 6, ground := Ground.data }, { on := 6, ground := Ground.chain }, { on := 0, ground := Ground.phase }, { on := 1, ground := Ground.phase }, { on := 2, ground := Ground.phase }, { on := 3, ground := Ground.phase }, { on := 4, ground := Ground.phase }, { on := 5, ground := Ground.phase }, { on := 6, ground := Ground.phase }], guard := none }] true).wp Tryd.prog Q { tmps := #[x0, .pointer (some ⟨b, 0, none⟩), x2, .slice (some ⟨g2, 0, none⟩) n2 c2, x4, x5, x6, x7, x8, x9, x10, x11, x12, x13, x14, x15, x16, x17, x18, x19, x20, x21, x22, x23], defers := ds } A := by
  refine Code.wp_mono (Q := fun x a' w' => match x with | .normal => Q .normal a' w' | _ => False) (by intro x a' w' h; cases x <;> first | exact h | exact h.elim) ?_
  refine wp_region_held (S := fun V => Below A.heap.size A V) (by kernel_rfl) ?_
  have hS0 : Hid (Below A.heap.size A A.drew) := below_drew0 A
  change wpAnyH Tryd.prog .any _ _ (fun V => Below A.heap.size A V) 8 (Array.replicate 8 false) _ A.drew
  obtain ⟨V0, hV0⟩ : ∃ V0, A.drew = V0 := ⟨_, rfl⟩
  rw [hV0]
  rw [hV0] at hS0
  clear hV0
  refine wpAnyH_take (i := 0) (oi := { dst := some 12, op := Op.move (Operand.tmp 3), type := 60, pos := "ref.go:32", after := #[], guard := none }) (v := .slice (some ⟨g2, 0, none⟩) n2 c2) rfl (by kernel_rfl) (by kernel_rfl) (by kernel_rfl) (fun _ _ _ h => h.elim) (Or.inl ⟨by rfl, ?y1⟩) hS0.out ?_
  case y1 =>
    intro V hV
    go_simp
  simp only [Act.put, List.setIfInBounds_toArray, List.set_cons_zero, List.set_cons_succ]
  refine wpAnyH_take (i := 1) (oi := { dst := some 13, op := Op.fieldAddr 37 (Operand.tmp 1) 2, type := 0, pos := "ref.go:32", after := #[], guard := none }) (v := .pointer (some ⟨b, 2, none⟩)) rfl (by kernel_rfl) (by kernel_rfl) (by kernel_rfl) (fun _ _ _ h => h.elim) (Or.inl ⟨by rfl, ?y2⟩) hS0.out ?_
  case y2 =>
    intro V hV
    go_simp
  simp only [Act.put, List.setIfInBounds_toArray, List.set_cons_zero, List.set_cons_succ]
  refine wpAnyH_take (i := 2) (oi := { dst := some 14, op := Op.load 9 (Operand.tmp 13), type := 9, pos := "ref.go:32", after := #[{ on := 1, ground := Ground.data }], guard := none }) (v := .string wo) rfl (by kernel_rfl) (by kernel_rfl) (by kernel_rfl) (fun _ _ _ h => h.elim) (Or.inl ⟨by rfl, ?y3⟩) hS0.out ?_
  case y3 =>
    intro V hV
    have hc : V.cell? ⟨b, 2, none⟩ = some (.string wo) := ((show Below A.heap.size A V from hV).cell (p := ⟨b, 2, none⟩) HL.out).trans k2
    go_simp
  simp only [Act.put, List.setIfInBounds_toArray, List.set_cons_zero, List.set_cons_succ]
  refine wpAnyH_take (i := 4) (oi := { dst := some 16, op := Op.fieldAddr 37 (Operand.tmp 1) 3, type := 0, pos := "ref.go:32", after := #[], guard := none }) (v := .pointer (some ⟨b, 3, none⟩)) rfl (by kernel_rfl) (by kernel_rfl) (by kernel_rfl) (fun _ _ _ h => h.elim) (Or.inl ⟨by rfl, ?y4⟩) hS0.out ?_
  case y4 =>
    intro V hV
    go_simp
  simp only [Act.put, List.setIfInBounds_toArray, List.set_cons_zero, List.set_cons_succ]
  refine wpAnyH_take (i := 5) (oi := { dst := some 17, op := Op.load 9 (Operand.tmp 16), type := 9, pos := "ref.go:32", after := #[{ on := 4, ground := Ground.data }], guard := none }) (v := .string wa) rfl (by kernel_rfl) (by kernel_rfl) (by kernel_rfl) (fun _ _ _ h => h.elim) (Or.inl ⟨by rfl, ?y5⟩) hS0.out ?_
  case y5 =>
    intro V hV
    have hc : V.cell? ⟨b, 3, none⟩ = some (.string wa) := ((show Below A.heap.size A V from hV).cell (p := ⟨b, 3, none⟩) HL.out).trans k3
    go_simp
  simp only [Act.put, List.setIfInBounds_toArray, List.set_cons_zero, List.set_cons_succ]
  refine wpAnyH_ready (rs := [3]) (by kernel_rfl) (by simp) (AllReadyH.cons (i := 3) (o := { dst := some 15, op := Op.call { callee := Callee.value (Operand.func 35), args := #[Operand.tmp 12, Operand.tmp 14], argTypes := #[60, 9] }, type := 60, pos := "ref.go:32", after := #[{ on := 0, ground := Ground.data }, { on := 2, ground := Ground.data }], guard := none }) rfl ?_ AllReadyH.nil)
  · intro K1 hK1
    rw [if_pos (by rfl)]
    have HC1 := HT1.out V0 _ _ (HI.out.below hS0.out)
    go_wp2_with fail
    refine HC1.mono ?_
    rintro e V1 ⟨g3, c3, rfl, hI3, hb1⟩
    dsimp only
    clear HC1
    have hS1 : Hid (Below A.heap.size A V1) := hS0.out.trans (hb1.mono hS0.out.size)
    have hO3 : Hid (A.heap.size ≤ V0.heap.size) := hS0.out.size
    clear hb1
    refine hK1.out _ _ hS1.out ?_
    clear hK1
    intro _
    try simp only [Act.put, List.setIfInBounds_toArray, List.set_cons_zero, List.set_cons_succ]
    refine wpAnyH_ready (rs := [6]) (by kernel_rfl) (by simp) (AllReadyH.cons (i := 6) (o := { dst := some 18, op := Op.call { callee := Callee.value (Operand.func 35), args := #[Operand.tmp 15, Operand.tmp 17], argTypes := #[60, 9] }, type := 60, pos := "ref.go:32", after := #[{ on := 3, ground := Ground.data }, { on := 5, ground := Ground.data }, { on := 3, ground := Ground.chain }], guard := none }) rfl ?_ AllReadyH.nil)
    · intro K1 hK1
      rw [if_pos (by rfl)]
      have HC2 := HT2.out V1 _ _ hI3.out.1
      go_wp2_with fail
      refine HC2.mono ?_
      rintro e V2 ⟨g4, c4, rfl, hI4, hb2⟩
      dsimp only
      clear HC2
      have hS2 : Hid (Below A.heap.size A V2) := hS1.out.trans (hb2.mono hS1.out.size)
      have hO4 : Hid (A.heap.size ≤ V1.heap.size) := hS1.out.size
      clear hb2
      refine hK1.out _ _ hS2.out ?_
      clear hK1
      intro _
      try simp only [Act.put, List.setIfInBounds_toArray, List.set_cons_zero, List.set_cons_succ]
      refine wpAnyH_take (i := 7) (oi := { dst := some 3, op := Op.assign (Operand.tmp 18), type := 60, pos := "ref.go:32", after := #[{ on := 6, ground := Ground.data }, { on := 6, ground := Ground.chain }, { on := 0, ground := Ground.phase }, { on := 1, ground := Ground.phase }, { on := 2, ground := Ground.phase }, { on := 3, ground := Ground.phase }, { on := 4, ground := Ground.phase }, { on := 5, ground := Ground.phase }, { on := 6, ground := Ground.phase }], guard := none }) (v := .slice (some ⟨g4, 0, none⟩) n4 c4) rfl (by kernel_rfl) (by kernel_rfl) (by kernel_rfl) (fun _ _ _ h => h.elim) (Or.inl ⟨by rfl, ?y6⟩) hS2.out ?_
      case y6 =>
        intro V hV
        go_simp
      simp only [Act.put, List.setIfInBounds_toArray, List.set_cons_zero, List.set_cons_succ]
      refine wpAnyH_done (by kernel_rfl) ?_ _
      exact hQ V2 V1 _ _ _ _ hS2.out hI4.out.2 hO4.out
#print axioms rd2
end Go.Proofs.YtmmpafaegmejlaaDoor.Oct
