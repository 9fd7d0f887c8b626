/-
  Layer 17 (acl): AclMonotone, AclApart, AclNearest: their drawn regions.
-/
import Derived.Test.YtngkajeghmogmaaAsk
import Derived.Deep.RegionHeld
namespace Go.Proofs.Ytngkajeghmogmaa.Oct
open Go.RowKit Go.Shelf
set_option linter.unusedSimpArgs false

theorem below_drew0 (w : World) : Below w.heap.size w w.drew := ⟨rfl, rfl, rfl, Nat.le_refl _, fun _ _ => rfl⟩
theorem rangeAt_same {w V : World} {b o : Nat} {cs : List Value} (h : w.rangeAt b o cs) (hs : V.heap[b]? = w.heap[b]?) : V.rangeAt b o cs :=
  fun j v hj => (World.cell?_of_block (a := ⟨b, o + j, none⟩) hs).trans (h j v hj)
theorem size31 : (Try.prog.info? 31).map (·.size) = some 5 := by kernel_rfl
theorem size27 : (Try.prog.info? 27).map (·.size) = some 6 := by kernel_rfl
def akc (k : Ak) : List Value := [.string k.s.user, .slice k.s.ta k.s.tn k.s.tc, iv k.s.role, .string k.ch, .string k.path, iv k.right]
theorem Below.up {B C : Nat} {w w' : World} (h : Below B w w') (hc : C ≤ B) : Below C w w' := h.mono hc
theorem bs_nil (w : World) (q : Nat) : Bs 31 5 q w (.slice (some ⟨q, 0, none⟩) 0 0) 0 [] := .inl ⟨_, rfl, Rd.nil _ _ _ _, .inr ⟨q, 0, rfl⟩⟩
theorem rus_of_bs {w : World} {B : Nat} {v : Value} {n : Nat} {l : List Ru} (h : Bs 31 5 B w v n (flat l)) (hs : ∀ r ∈ l, r.short) : ∃ a c, v = .slice a n c ∧ RuS w a n l := by
  obtain ⟨a, c, hv, _, hrd, _⟩ := h.read
  exact ⟨a, c, hv, RuS.of hrd hs⟩
set_option maxRecDepth 100000 in
set_option maxHeartbeats 4000000 in
theorem mono_light {Q : Exit → Act → World → Prop} {x1 x2 x3 x6 x7 x8 x9 x10 x11 x12 x13 x14 x15 x16 x17 x18 x19 x20 x21 x22 x23 x24 x25 x26 x27 x28 x29 x30 x31 x32 x33 x34 x35 x36 x37 x38 x39 x40 x41 x42 x43 x44 x45 x46 x47 x48 x49 x50 x51 x52 x53 : Value} {ds : List Deferred} {A : World} {g4 g5 n cp : Nat} {a : Option Addr} {r : Ru} {k : Ak} {l : List Ru}
    (HL : Hid (Rd A 31 5 a n (flat l))) (HN : Hid (n ≤ 2199023255551)) (HSH : Hid (∀ q ∈ l ++ [r], q.short)) (HR : Hid (Blk A g4 31 [.string r.who, .string r.ch, .string r.pre, iv r.right, .bool r.deny])) (HA : Hid (Blk A g5 27 [.string k.s.user, .slice k.s.ta k.s.tn k.s.tc, iv k.s.role, .string k.ch, .string k.path, iv k.right])) (HK : Hid (k.at A))
    (hQ : ∀ V (b : Bool) (q q2 : Nat) (v : Value) (a2 : Option Addr) (c2 : Nat), Below A.heap.size A V → Q .normal { tmps := #[.slice a n cp, x1, x2, x3, .pointer (some ⟨g4, 0, none⟩), .pointer (some ⟨g5, 0, none⟩), x6, x7, x8, .slice (some ⟨q, 0, none⟩) 0 0, .slice a n cp, v, .agg #[.string r.who, .string r.ch, .string r.pre, iv r.right, .bool r.deny], .slice (some ⟨q2, 0, none⟩) 1 1, .slice a2 (n + 1) c2, .agg #[.string k.s.user, .slice k.s.ta k.s.tn k.s.tc, iv k.s.role, .string k.ch, .string k.path, iv k.right], .bool b, .bool (!b), x18, x19, x20, x21, x22, x23, x24, x25, x26, x27, x28, x29, x30, x31, x32, x33, x34, x35, x36, x37, x38, x39, x40, x41, x42, x43, x44, x45, x46, x47, x48, x49, x50, x51, x52, x53], defers := ds } V) :
    (Code.region 1 #[{ dst := some 9, op := Op.buildSlice 22 0 #[], type := 22, pos := "law.go:64", after := #[], guard := none }, { dst := some 10, op := Op.move (Operand.tmp 0), type := 22, pos := "law.go:64", after := #[], guard := none }, { dst := some 11, op := Op.call { callee := Callee.builtin Builtin.append, args := #[Operand.tmp 9, Operand.tmp 10], argTypes := #[22, 22] }, type := 22, pos := "law.go:64", after := #[{ on := 0, ground := Ground.data }, { on := 1, ground := Ground.data }], guard := none }, { dst := some 12, op := Op.load 31 (Operand.tmp 4), type := 31, pos := "law.go:64", after := #[], guard := none }, { dst := some 13, op := Op.buildSlice 22 1 #[(0, Operand.tmp 12)], type := 22, pos := "law.go:64", after := #[{ on := 3, ground := Ground.data }], guard := none }, { dst := some 14, op := Op.call { callee := Callee.builtin Builtin.append, args := #[Operand.tmp 11, Operand.tmp 13], argTypes := #[22, 22] }, type := 22, pos := "law.go:64", after := #[{ on := 2, ground := Ground.data }, { on := 4, ground := Ground.data }, { on := 2, ground := Ground.chain }], guard := none }, { dst := some 15, op := Op.load 27 (Operand.tmp 5), type := 27, pos := "law.go:64", after := #[], guard := none }, { dst := some 16, op := Op.call { callee := Callee.value (Operand.func 9), args := #[Operand.tmp 14, Operand.tmp 15], argTypes := #[22, 27] }, type := 4, pos := "law.go:64", after := #[{ on := 5, ground := Ground.data }, { on := 6, ground := Ground.data }, { on := 5, ground := Ground.chain }], guard := none }, { dst := some 17, op := Op.unOp UnOp.not 4 (Operand.tmp 16), type := 4, pos := "law.go:64", after := #[{ on := 7, ground := Ground.data }], guard := none }] true).wp Try.prog Q { tmps := #[.slice a n cp, x1, x2, x3, .pointer (some ⟨g4, 0, none⟩), .pointer (some ⟨g5, 0, none⟩), x6, x7, x8, x9, x10, x11, x12, x13, x14, x15, x16, x17, x18, x19, x20, x21, x22, x23, x24, x25, x26, x27, x28, x29, x30, x31, x32, x33, x34, x35, x36, x37, x38, x39, x40, x41, x42, x43, x44, x45, x46, x47, x48, x49, x50, x51, x52, x53], defers := ds } A := by
  refine Code.wp_mono (Q := fun x a' w' => match x with | .normal => Q .normal a' w' | _ => False) (by intro x a' w' h; cases x <;> first | exact h | exact h.elim) ?_
  refine wp_region_held (S := fun V => Below A.heap.size A V) (by kernel_rfl) ?_
  have hS0 : Hid (Below A.heap.size A A.drew) := below_drew0 A
  change wpAnyH Try.prog .any _ _ (fun V => Below A.heap.size A V) 9 (Array.replicate 9 false) _ A.drew
  obtain ⟨V0, hV0⟩ : ∃ V0, A.drew = V0 := ⟨_, rfl⟩
  rw [hV0]
  rw [hV0] at hS0
  obtain ⟨i0, hi0, hz0, hz1, hz2⟩ := info31
  have HI0 : Hid (Try.prog.info? 31 = some i0 ∧ i0.zero = some (.agg #[.string ⟨#[]⟩, .string ⟨#[]⟩, .string ⟨#[]⟩, .int .i64 0, .bool false]) ∧ i0.size = 5 ∧ i0.bytes ≤ 64) := ⟨hi0, hz0, hz1, hz2⟩
  clear hi0 hz0 hz1 hz2
  clear hV0
  refine wpAnyH_take (i := 1) (oi := { dst := some 10, op := Op.move (Operand.tmp 0), type := 22, pos := "law.go:64", after := #[], guard := none }) (v := .slice a n cp) rfl (by kernel_rfl) (by kernel_rfl) (by kernel_rfl) (fun _ _ _ h => h.elim) (Or.inl ⟨by rfl, ?y1⟩) hS0.out ?_
  case y1 =>
    intro V hV
    go_simp
  simp only [Act.put, List.setIfInBounds_toArray, List.set_cons_zero, List.set_cons_succ]
  refine wpAnyH_take (i := 3) (oi := { dst := some 12, op := Op.load 31 (Operand.tmp 4), type := 31, pos := "law.go:64", after := #[], guard := none }) (v := .agg #[.string r.who, .string r.ch, .string r.pre, iv r.right, .bool r.deny]) rfl (by kernel_rfl) (by kernel_rfl) (by kernel_rfl) (fun _ _ _ h => h.elim) (yieldsIf_load_mid (by rfl) _ _ rfl _ _ rfl ([.string r.who, .string r.ch, .string r.pre, iv r.right, .bool r.deny]) _ (fun V hV => rangeAt_same (HR.out.range 0 5) ((show Below A.heap.size A V from hV).block _ (HR.out.lt))) Try.underlying31 rfl (size31)) hS0.out ?_
  simp only [Act.put, List.setIfInBounds_toArray, List.set_cons_zero, List.set_cons_succ]
  refine wpAnyH_take (i := 6) (oi := { dst := some 15, op := Op.load 27 (Operand.tmp 5), type := 27, pos := "law.go:64", after := #[], guard := none }) (v := .agg #[.string k.s.user, .slice k.s.ta k.s.tn k.s.tc, iv k.s.role, .string k.ch, .string k.path, iv k.right]) rfl (by kernel_rfl) (by kernel_rfl) (by kernel_rfl) (fun _ _ _ h => h.elim) (yieldsIf_load_mid (by rfl) _ _ rfl _ _ rfl ([.string k.s.user, .slice k.s.ta k.s.tn k.s.tc, iv k.s.role, .string k.ch, .string k.path, iv k.right]) _ (fun V hV => rangeAt_same (HA.out.range 0 6) ((show Below A.heap.size A V from hV).block _ (HA.out.lt))) Try.underlying27 rfl (size27)) hS0.out ?_
  simp only [Act.put, List.setIfInBounds_toArray, List.set_cons_zero, List.set_cons_succ]
  refine wpAnyH_ready (rs := [0, 4]) (by kernel_rfl) (by simp) (AllReadyH.cons (i := 0) (o := { dst := some 9, op := Op.buildSlice 22 0 #[], type := 22, pos := "law.go:64", after := #[], guard := none }) rfl ?_ (AllReadyH.cons (i := 4) (o := { dst := some 13, op := Op.buildSlice 22 1 #[(0, Operand.tmp 12)], type := 22, pos := "law.go:64", after := #[{ on := 3, ground := Ground.data }], guard := none }) rfl ?_ AllReadyH.nil))
  · intro K1 hK1
    rw [if_pos (by rfl)]
    obtain ⟨V1, hv1⟩ : ∃ V, V0.alloc (.cells #[] 31) = V := ⟨_, rfl⟩
    obtain ⟨q1, hq1⟩ : ∃ q, V0.heap.size = q := ⟨_, rfl⟩
    have hb1 : Hid (Below V0.heap.size V0 V1) := by rw [← hv1]; exact below_al _ _
    have hS1 : Hid (Below A.heap.size A V1) := hS0.out.trans (hb1.out.mono hS0.out.size)
    have HQ1 : Hid (A.heap.size ≤ q1 ∧ q1 ≤ V1.heap.size) := by rw [← hq1]; exact ⟨hS0.out.size, hb1.out.size⟩
    go_wp2
    clear hv1 hq1 hb1
    refine hK1.out _ _ hS1.out ?_
    clear hK1
    intro _
    try simp only [Act.put, List.setIfInBounds_toArray, List.set_cons_zero, List.set_cons_succ]
    refine wpAnyH_ready (rs := [2, 4]) (by kernel_rfl) (by simp) (AllReadyH.cons (i := 2) (o := { dst := some 11, op := Op.call { callee := Callee.builtin Builtin.append, args := #[Operand.tmp 9, Operand.tmp 10], argTypes := #[22, 22] }, type := 22, pos := "law.go:64", after := #[{ on := 0, ground := Ground.data }, { on := 1, ground := Ground.data }], guard := none }) rfl ?_ (AllReadyH.cons (i := 4) (o := { dst := some 13, op := Op.buildSlice 22 1 #[(0, Operand.tmp 12)], type := 22, pos := "law.go:64", after := #[{ on := 3, ground := Ground.data }], guard := none }) rfl ?_ AllReadyH.nil))
    · intro K1 hK1
      obtain ⟨B2, hB2⟩ : ∃ B, V1.heap.size = B := ⟨_, rfl⟩
      refine step_append_bs (by rfl) 11 rfl (.tmp 9) (.tmp 10) 22 rfl V1 31 i0 _ 5 B2 Try.underlying22 HI0.out.1 HI0.out.2.1 HI0.out.2.2.1 HI0.out.2.2.2 rfl (by omega) (.slice (some ⟨q1, 0, none⟩) 0 0) 0 [] (.inl ⟨_, rfl, Rd.nil _ _ _ _, .inr ⟨q1, 0, rfl⟩⟩) a n cp (flat l) rfl rfl ((HL.out.below hS1.out (Nat.le_refl _))) (by rw [hB2]; exact Nat.le_refl _) (by have := HN.out; omega) ?_
      intro v2 V2 hb2 hw2
      have hw22 : Hid (Below V1.heap.size V1 V2) := by rw [hB2]; exact hw2.out
      have hS2 : Hid (Below A.heap.size A V2) := hS1.out.trans (hw22.out.mono hS1.out.size)
      have BS2 : Hid (Bs 31 5 B2 V2 v2 n (flat l)) := by have h := hb2.out; rw [Nat.zero_add, List.nil_append] at h; exact h
      have HBB2 : Hid (A.heap.size ≤ B2 ∧ B2 ≤ V2.heap.size) := by rw [← hB2]; exact ⟨hS1.out.size, hw22.out.size⟩
      clear hB2 hb2 hw2
      refine hK1.out _ _ hS2.out ?_
      clear hK1
      intro _
      try simp only [Act.put, List.setIfInBounds_toArray, List.set_cons_zero, List.set_cons_succ]
      refine wpAnyH_ready (rs := [4]) (by kernel_rfl) (by simp) (AllReadyH.cons (i := 4) (o := { dst := some 13, op := Op.buildSlice 22 1 #[(0, Operand.tmp 12)], type := 22, pos := "law.go:64", after := #[{ on := 3, ground := Ground.data }], guard := none }) rfl ?_ AllReadyH.nil)
      · intro K1 hK1
        rw [if_pos (by rfl)]
        obtain ⟨V3, hv3⟩ : ∃ V, V2.alloc (.cells #[.string r.who, .string r.ch, .string r.pre, iv r.right, .bool r.deny] 31) = V := ⟨_, rfl⟩
        obtain ⟨q3, hq3⟩ : ∃ q, V2.heap.size = q := ⟨_, rfl⟩
        have hb3 : Hid (Below V2.heap.size V2 V3) := by rw [← hv3]; exact below_al _ _
        have hS3 : Hid (Below A.heap.size A V3) := hS2.out.trans (hb3.out.mono hS2.out.size)
        have BS3 : Hid (Bs 31 5 B2 V3 v2 n (flat l)) := bs_below BS2.out hb3.out
        have RD3 : Hid (Rd V3 31 5 (some ⟨q3, 0, none⟩) 1 (flat [r])) := by rw [← hv3, ← hq3]; exact rd_one _ r
        have HBB3 : Hid (A.heap.size ≤ B2 ∧ B2 ≤ V3.heap.size) := ⟨HBB2.out.1, Nat.le_trans HBB2.out.2 hb3.out.size⟩
        go_wp2
        clear hv3 hq3 hb3
        refine hK1.out _ _ hS3.out ?_
        clear hK1
        intro _
        try simp only [Act.put, List.setIfInBounds_toArray, List.set_cons_zero, List.set_cons_succ]
        refine wpAnyH_ready (rs := [5]) (by kernel_rfl) (by simp) (AllReadyH.cons (i := 5) (o := { dst := some 14, op := Op.call { callee := Callee.builtin Builtin.append, args := #[Operand.tmp 11, Operand.tmp 13], argTypes := #[22, 22] }, type := 22, pos := "law.go:64", after := #[{ on := 2, ground := Ground.data }, { on := 4, ground := Ground.data }, { on := 2, ground := Ground.chain }], guard := none }) rfl ?_ AllReadyH.nil)
        · intro K1 hK1
          have hsz4 : B2 ≤ V3.heap.size := by have h1 := HBB3.out.2; have h2 := h1; omega
          refine step_append_bs (by rfl) 14 rfl (.tmp 11) (.tmp 13) 22 rfl V3 31 i0 _ 5 B2 Try.underlying22 HI0.out.1 HI0.out.2.1 HI0.out.2.2.1 HI0.out.2.2.2 rfl (by omega) v2 n (flat l) BS3.out (some ⟨q3, 0, none⟩) 1 1 (flat [r]) rfl rfl RD3.out hsz4 (by have := HN.out; omega) ?_
          intro v4 V4 hb4 hw4
          have hS4 : Hid (Below A.heap.size A V4) := hS3.out.trans (hw4.out.mono HBB3.out.1)
          obtain ⟨a4, c4, he4, RU4⟩ : ∃ a c, v4 = .slice a (n + 1) c ∧ Hid (RuS V4 a (n + 1) (l ++ [r])) := rus_of_bs (by have h := hb4.out; rw [← flat_app] at h; exact h) HSH.out
          subst he4
          clear hb4 hw4
          refine hK1.out _ _ hS4.out ?_
          clear hK1
          intro _
          try simp only [Act.put, List.setIfInBounds_toArray, List.set_cons_zero, List.set_cons_succ]
          refine wpAnyH_ready (rs := [7]) (by kernel_rfl) (by simp) (AllReadyH.cons (i := 7) (o := { dst := some 16, op := Op.call { callee := Callee.value (Operand.func 9), args := #[Operand.tmp 14, Operand.tmp 15], argTypes := #[22, 27] }, type := 4, pos := "law.go:64", after := #[{ on := 5, ground := Ground.data }, { on := 6, ground := Ground.data }, { on := 5, ground := Ground.chain }], guard := none }) rfl ?_ AllReadyH.nil)
          · intro K1 hK1
            rw [if_pos (by rfl)]
            have HC5 := light_is (l ++ [r]) a4 (n + 1) c4 k V4 RU4.out (by have := HN.out; omega) (HK.out.below hS4.out)
            go_wp2_with fail
            refine HC5.mono ?_
            rintro e V5 ⟨b5, rfl, hb5⟩
            dsimp only
            clear HC5
            have hS5 : Hid (Below A.heap.size A V5) := hS4.out.trans (hb5.mono hS4.out.size)
            have RU5 : Hid (RuS V5 a4 (n + 1) (l ++ [r])) := RU4.out.below hb5
            clear hb5
            refine hK1.out _ _ hS5.out ?_
            clear hK1
            intro _
            try simp only [Act.put, List.setIfInBounds_toArray, List.set_cons_zero, List.set_cons_succ]
            refine wpAnyH_take (i := 8) (oi := { dst := some 17, op := Op.unOp UnOp.not 4 (Operand.tmp 16), type := 4, pos := "law.go:64", after := #[{ on := 7, ground := Ground.data }], guard := none }) (v := .bool (!b5)) rfl (by kernel_rfl) (by kernel_rfl) (by kernel_rfl) (fun _ _ _ h => h.elim) (Or.inl ⟨by rfl, ?y2⟩) hS5.out ?_
            case y2 =>
              intro V hV
              go_simp
            simp only [Act.put, List.setIfInBounds_toArray, List.set_cons_zero, List.set_cons_succ]
            refine wpAnyH_done (by kernel_rfl) ?_ _
            exact hQ _ _ _ _ _ _ _ hS5.out
    · intro K1 hK1
      rw [if_pos (by rfl)]
      obtain ⟨V2, hv2⟩ : ∃ V, V1.alloc (.cells #[.string r.who, .string r.ch, .string r.pre, iv r.right, .bool r.deny] 31) = V := ⟨_, rfl⟩
      obtain ⟨q2, hq2⟩ : ∃ q, V1.heap.size = q := ⟨_, rfl⟩
      have hb2 : Hid (Below V1.heap.size V1 V2) := by rw [← hv2]; exact below_al _ _
      have hS2 : Hid (Below A.heap.size A V2) := hS1.out.trans (hb2.out.mono hS1.out.size)
      have RD2 : Hid (Rd V2 31 5 (some ⟨q2, 0, none⟩) 1 (flat [r])) := by rw [← hv2, ← hq2]; exact rd_one _ r
      go_wp2
      clear hv2 hq2 hb2
      refine hK1.out _ _ hS2.out ?_
      clear hK1
      intro _
      try simp only [Act.put, List.setIfInBounds_toArray, List.set_cons_zero, List.set_cons_succ]
      refine wpAnyH_ready (rs := [2]) (by kernel_rfl) (by simp) (AllReadyH.cons (i := 2) (o := { dst := some 11, op := Op.call { callee := Callee.builtin Builtin.append, args := #[Operand.tmp 9, Operand.tmp 10], argTypes := #[22, 22] }, type := 22, pos := "law.go:64", after := #[{ on := 0, ground := Ground.data }, { on := 1, ground := Ground.data }], guard := none }) rfl ?_ AllReadyH.nil)
      · intro K1 hK1
        obtain ⟨B3, hB3⟩ : ∃ B, V2.heap.size = B := ⟨_, rfl⟩
        refine step_append_bs (by rfl) 11 rfl (.tmp 9) (.tmp 10) 22 rfl V2 31 i0 _ 5 B3 Try.underlying22 HI0.out.1 HI0.out.2.1 HI0.out.2.2.1 HI0.out.2.2.2 rfl (by omega) (.slice (some ⟨q1, 0, none⟩) 0 0) 0 [] (.inl ⟨_, rfl, Rd.nil _ _ _ _, .inr ⟨q1, 0, rfl⟩⟩) a n cp (flat l) rfl rfl ((HL.out.below hS2.out (Nat.le_refl _))) (by rw [hB3]; exact Nat.le_refl _) (by have := HN.out; omega) ?_
        intro v3 V3 hb3 hw3
        have hw32 : Hid (Below V2.heap.size V2 V3) := by rw [hB3]; exact hw3.out
        have hS3 : Hid (Below A.heap.size A V3) := hS2.out.trans (hw32.out.mono hS2.out.size)
        have RD3 : Hid (Rd V3 31 5 (some ⟨q2, 0, none⟩) 1 (flat [r])) := RD2.out.below hw32.out (Nat.le_refl _)
        have BS3 : Hid (Bs 31 5 B3 V3 v3 n (flat l)) := by have h := hb3.out; rw [Nat.zero_add, List.nil_append] at h; exact h
        have HBB3 : Hid (A.heap.size ≤ B3 ∧ B3 ≤ V3.heap.size) := by rw [← hB3]; exact ⟨hS2.out.size, hw32.out.size⟩
        clear hB3 hb3 hw3
        refine hK1.out _ _ hS3.out ?_
        clear hK1
        intro _
        try simp only [Act.put, List.setIfInBounds_toArray, List.set_cons_zero, List.set_cons_succ]
        refine wpAnyH_ready (rs := [5]) (by kernel_rfl) (by simp) (AllReadyH.cons (i := 5) (o := { dst := some 14, op := Op.call { callee := Callee.builtin Builtin.append, args := #[Operand.tmp 11, Operand.tmp 13], argTypes := #[22, 22] }, type := 22, pos := "law.go:64", after := #[{ on := 2, ground := Ground.data }, { on := 4, ground := Ground.data }, { on := 2, ground := Ground.chain }], guard := none }) rfl ?_ AllReadyH.nil)
        · intro K1 hK1
          have hsz4 : B3 ≤ V3.heap.size := by have h1 := HBB3.out.2; have h2 := h1; omega
          refine step_append_bs (by rfl) 14 rfl (.tmp 11) (.tmp 13) 22 rfl V3 31 i0 _ 5 B3 Try.underlying22 HI0.out.1 HI0.out.2.1 HI0.out.2.2.1 HI0.out.2.2.2 rfl (by omega) v3 n (flat l) BS3.out (some ⟨q2, 0, none⟩) 1 1 (flat [r]) rfl rfl RD3.out hsz4 (by have := HN.out; omega) ?_
          intro v4 V4 hb4 hw4
          have hS4 : Hid (Below A.heap.size A V4) := hS3.out.trans (hw4.out.mono HBB3.out.1)
          obtain ⟨a4, c4, he4, RU4⟩ : ∃ a c, v4 = .slice a (n + 1) c ∧ Hid (RuS V4 a (n + 1) (l ++ [r])) := rus_of_bs (by have h := hb4.out; rw [← flat_app] at h; exact h) HSH.out
          subst he4
          clear hb4 hw4
          refine hK1.out _ _ hS4.out ?_
          clear hK1
          intro _
          try simp only [Act.put, List.setIfInBounds_toArray, List.set_cons_zero, List.set_cons_succ]
          refine wpAnyH_ready (rs := [7]) (by kernel_rfl) (by simp) (AllReadyH.cons (i := 7) (o := { dst := some 16, op := Op.call { callee := Callee.value (Operand.func 9), args := #[Operand.tmp 14, Operand.tmp 15], argTypes := #[22, 27] }, type := 4, pos := "law.go:64", after := #[{ on := 5, ground := Ground.data }, { on := 6, ground := Ground.data }, { on := 5, ground := Ground.chain }], guard := none }) rfl ?_ AllReadyH.nil)
          · intro K1 hK1
            rw [if_pos (by rfl)]
            have HC5 := light_is (l ++ [r]) a4 (n + 1) c4 k V4 RU4.out (by have := HN.out; omega) (HK.out.below hS4.out)
            go_wp2_with fail
            refine HC5.mono ?_
            rintro e V5 ⟨b5, rfl, hb5⟩
            dsimp only
            clear HC5
            have hS5 : Hid (Below A.heap.size A V5) := hS4.out.trans (hb5.mono hS4.out.size)
            have RU5 : Hid (RuS V5 a4 (n + 1) (l ++ [r])) := RU4.out.below hb5
            clear hb5
            refine hK1.out _ _ hS5.out ?_
            clear hK1
            intro _
            try simp only [Act.put, List.setIfInBounds_toArray, List.set_cons_zero, List.set_cons_succ]
            refine wpAnyH_take (i := 8) (oi := { dst := some 17, op := Op.unOp UnOp.not 4 (Operand.tmp 16), type := 4, pos := "law.go:64", after := #[{ on := 7, ground := Ground.data }], guard := none }) (v := .bool (!b5)) rfl (by kernel_rfl) (by kernel_rfl) (by kernel_rfl) (fun _ _ _ h => h.elim) (Or.inl ⟨by rfl, ?y3⟩) hS5.out ?_
            case y3 =>
              intro V hV
              go_simp
            simp only [Act.put, List.setIfInBounds_toArray, List.set_cons_zero, List.set_cons_succ]
            refine wpAnyH_done (by kernel_rfl) ?_ _
            exact hQ _ _ _ _ _ _ _ hS5.out
  · intro K1 hK1
    rw [if_pos (by rfl)]
    obtain ⟨V1, hv1⟩ : ∃ V, V0.alloc (.cells #[.string r.who, .string r.ch, .string r.pre, iv r.right, .bool r.deny] 31) = V := ⟨_, rfl⟩
    obtain ⟨q1, hq1⟩ : ∃ q, V0.heap.size = q := ⟨_, rfl⟩
    have hb1 : Hid (Below V0.heap.size V0 V1) := by rw [← hv1]; exact below_al _ _
    have hS1 : Hid (Below A.heap.size A V1) := hS0.out.trans (hb1.out.mono hS0.out.size)
    have RD1 : Hid (Rd V1 31 5 (some ⟨q1, 0, none⟩) 1 (flat [r])) := by rw [← hv1, ← hq1]; exact rd_one _ r
    go_wp2
    clear hv1 hq1 hb1
    refine hK1.out _ _ hS1.out ?_
    clear hK1
    intro _
    try simp only [Act.put, List.setIfInBounds_toArray, List.set_cons_zero, List.set_cons_succ]
    refine wpAnyH_ready (rs := [0]) (by kernel_rfl) (by simp) (AllReadyH.cons (i := 0) (o := { dst := some 9, op := Op.buildSlice 22 0 #[], type := 22, pos := "law.go:64", after := #[], guard := none }) rfl ?_ AllReadyH.nil)
    · intro K1 hK1
      rw [if_pos (by rfl)]
      obtain ⟨V2, hv2⟩ : ∃ V, V1.alloc (.cells #[] 31) = V := ⟨_, rfl⟩
      obtain ⟨q2, hq2⟩ : ∃ q, V1.heap.size = q := ⟨_, rfl⟩
      have hb2 : Hid (Below V1.heap.size V1 V2) := by rw [← hv2]; exact below_al _ _
      have hS2 : Hid (Below A.heap.size A V2) := hS1.out.trans (hb2.out.mono hS1.out.size)
      have RD2 : Hid (Rd V2 31 5 (some ⟨q1, 0, none⟩) 1 (flat [r])) := RD1.out.below hb2.out (Nat.le_refl _)
      have HQ2 : Hid (A.heap.size ≤ q2 ∧ q2 ≤ V2.heap.size) := by rw [← hq2]; exact ⟨hS1.out.size, hb2.out.size⟩
      go_wp2
      clear hv2 hq2 hb2
      refine hK1.out _ _ hS2.out ?_
      clear hK1
      intro _
      try simp only [Act.put, List.setIfInBounds_toArray, List.set_cons_zero, List.set_cons_succ]
      refine wpAnyH_ready (rs := [2]) (by kernel_rfl) (by simp) (AllReadyH.cons (i := 2) (o := { dst := some 11, op := Op.call { callee := Callee.builtin Builtin.append, args := #[Operand.tmp 9, Operand.tmp 10], argTypes := #[22, 22] }, type := 22, pos := "law.go:64", after := #[{ on := 0, ground := Ground.data }, { on := 1, ground := Ground.data }], guard := none }) rfl ?_ AllReadyH.nil)
      · intro K1 hK1
        obtain ⟨B3, hB3⟩ : ∃ B, V2.heap.size = B := ⟨_, rfl⟩
        refine step_append_bs (by rfl) 11 rfl (.tmp 9) (.tmp 10) 22 rfl V2 31 i0 _ 5 B3 Try.underlying22 HI0.out.1 HI0.out.2.1 HI0.out.2.2.1 HI0.out.2.2.2 rfl (by omega) (.slice (some ⟨q2, 0, none⟩) 0 0) 0 [] (.inl ⟨_, rfl, Rd.nil _ _ _ _, .inr ⟨q2, 0, rfl⟩⟩) a n cp (flat l) rfl rfl ((HL.out.below hS2.out (Nat.le_refl _))) (by rw [hB3]; exact Nat.le_refl _) (by have := HN.out; omega) ?_
        intro v3 V3 hb3 hw3
        have hw32 : Hid (Below V2.heap.size V2 V3) := by rw [hB3]; exact hw3.out
        have hS3 : Hid (Below A.heap.size A V3) := hS2.out.trans (hw32.out.mono hS2.out.size)
        have RD3 : Hid (Rd V3 31 5 (some ⟨q1, 0, none⟩) 1 (flat [r])) := RD2.out.below hw32.out (Nat.le_refl _)
        have BS3 : Hid (Bs 31 5 B3 V3 v3 n (flat l)) := by have h := hb3.out; rw [Nat.zero_add, List.nil_append] at h; exact h
        have HBB3 : Hid (A.heap.size ≤ B3 ∧ B3 ≤ V3.heap.size) := by rw [← hB3]; exact ⟨hS2.out.size, hw32.out.size⟩
        clear hB3 hb3 hw3
        refine hK1.out _ _ hS3.out ?_
        clear hK1
        intro _
        try simp only [Act.put, List.setIfInBounds_toArray, List.set_cons_zero, List.set_cons_succ]
        refine wpAnyH_ready (rs := [5]) (by kernel_rfl) (by simp) (AllReadyH.cons (i := 5) (o := { dst := some 14, op := Op.call { callee := Callee.builtin Builtin.append, args := #[Operand.tmp 11, Operand.tmp 13], argTypes := #[22, 22] }, type := 22, pos := "law.go:64", after := #[{ on := 2, ground := Ground.data }, { on := 4, ground := Ground.data }, { on := 2, ground := Ground.chain }], guard := none }) rfl ?_ AllReadyH.nil)
        · intro K1 hK1
          have hsz4 : B3 ≤ V3.heap.size := by have h1 := HBB3.out.2; have h2 := h1; omega
          refine step_append_bs (by rfl) 14 rfl (.tmp 11) (.tmp 13) 22 rfl V3 31 i0 _ 5 B3 Try.underlying22 HI0.out.1 HI0.out.2.1 HI0.out.2.2.1 HI0.out.2.2.2 rfl (by omega) v3 n (flat l) BS3.out (some ⟨q1, 0, none⟩) 1 1 (flat [r]) rfl rfl RD3.out hsz4 (by have := HN.out; omega) ?_
          intro v4 V4 hb4 hw4
          have hS4 : Hid (Below A.heap.size A V4) := hS3.out.trans (hw4.out.mono HBB3.out.1)
          obtain ⟨a4, c4, he4, RU4⟩ : ∃ a c, v4 = .slice a (n + 1) c ∧ Hid (RuS V4 a (n + 1) (l ++ [r])) := rus_of_bs (by have h := hb4.out; rw [← flat_app] at h; exact h) HSH.out
          subst he4
          clear hb4 hw4
          refine hK1.out _ _ hS4.out ?_
          clear hK1
          intro _
          try simp only [Act.put, List.setIfInBounds_toArray, List.set_cons_zero, List.set_cons_succ]
          refine wpAnyH_ready (rs := [7]) (by kernel_rfl) (by simp) (AllReadyH.cons (i := 7) (o := { dst := some 16, op := Op.call { callee := Callee.value (Operand.func 9), args := #[Operand.tmp 14, Operand.tmp 15], argTypes := #[22, 27] }, type := 4, pos := "law.go:64", after := #[{ on := 5, ground := Ground.data }, { on := 6, ground := Ground.data }, { on := 5, ground := Ground.chain }], guard := none }) rfl ?_ AllReadyH.nil)
          · intro K1 hK1
            rw [if_pos (by rfl)]
            have HC5 := light_is (l ++ [r]) a4 (n + 1) c4 k V4 RU4.out (by have := HN.out; omega) (HK.out.below hS4.out)
            go_wp2_with fail
            refine HC5.mono ?_
            rintro e V5 ⟨b5, rfl, hb5⟩
            dsimp only
            clear HC5
            have hS5 : Hid (Below A.heap.size A V5) := hS4.out.trans (hb5.mono hS4.out.size)
            have RU5 : Hid (RuS V5 a4 (n + 1) (l ++ [r])) := RU4.out.below hb5
            clear hb5
            refine hK1.out _ _ hS5.out ?_
            clear hK1
            intro _
            try simp only [Act.put, List.setIfInBounds_toArray, List.set_cons_zero, List.set_cons_succ]
            refine wpAnyH_take (i := 8) (oi := { dst := some 17, op := Op.unOp UnOp.not 4 (Operand.tmp 16), type := 4, pos := "law.go:64", after := #[{ on := 7, ground := Ground.data }], guard := none }) (v := .bool (!b5)) rfl (by kernel_rfl) (by kernel_rfl) (by kernel_rfl) (fun _ _ _ h => h.elim) (Or.inl ⟨by rfl, ?y4⟩) hS5.out ?_
            case y4 =>
              intro V hV
              go_simp
            simp only [Act.put, List.setIfInBounds_toArray, List.set_cons_zero, List.set_cons_succ]
            refine wpAnyH_done (by kernel_rfl) ?_ _
            exact hQ _ _ _ _ _ _ _ hS5.out
#print axioms mono_light
set_option maxRecDepth 100000 in
set_option maxHeartbeats 4000000 in
theorem apart_light {Q : Exit → Act → World → Prop} {x1 x2 x3 x6 x7 x8 x9 x10 x11 x12 x13 x14 x15 x16 x17 x18 x19 x20 x21 x22 x23 x24 x25 x26 x27 x28 x29 x30 x31 x32 x33 x34 x35 x36 x37 x38 x39 x40 x41 x42 x43 x44 x45 x46 x47 x48 x49 x50 x51 x52 x53 x54 x55 x56 x57 x58 : Value} {ds : List Deferred} {A : World} {g4 g5 n cp : Nat} {a : Option Addr} {r : Ru} {k : Ak} {l : List Ru}
    (HL : Hid (Rd A 31 5 a n (flat l))) (HN : Hid (n ≤ 2199023255551)) (HSH : Hid (∀ q ∈ l ++ [r], q.short)) (HR : Hid (Blk A g4 31 [.string r.who, .string r.ch, .string r.pre, iv r.right, .bool r.deny])) (HA : Hid (Blk A g5 27 [.string k.s.user, .slice k.s.ta k.s.tn k.s.tc, iv k.s.role, .string k.ch, .string k.path, iv k.right])) (HK : Hid (k.at A))
    (hQ : ∀ V (b : Bool) (q q2 : Nat) (v : Value) (a2 : Option Addr) (c2 : Nat), Below A.heap.size A V → Q .normal { tmps := #[.slice a n cp, x1, x2, x3, .pointer (some ⟨g4, 0, none⟩), .pointer (some ⟨g5, 0, none⟩), x6, .slice (some ⟨q, 0, none⟩) 0 0, .slice a n cp, v, .agg #[.string r.who, .string r.ch, .string r.pre, iv r.right, .bool r.deny], .slice (some ⟨q2, 0, none⟩) 1 1, .slice a2 (n + 1) c2, .agg #[.string k.s.user, .slice k.s.ta k.s.tn k.s.tc, iv k.s.role, .string k.ch, .string k.path, iv k.right], .bool b, .bool (!b), x16, x17, x18, x19, x20, x21, x22, x23, x24, x25, x26, x27, x28, x29, x30, x31, x32, x33, x34, x35, x36, x37, x38, x39, x40, x41, x42, x43, x44, x45, x46, x47, x48, x49, x50, x51, x52, x53, x54, x55, x56, x57, x58], defers := ds } V) :
    (Code.region 1 #[{ dst := some 7, op := Op.buildSlice 22 0 #[], type := 22, pos := "law.go:86", after := #[], guard := none }, { dst := some 8, op := Op.move (Operand.tmp 0), type := 22, pos := "law.go:86", after := #[], guard := none }, { dst := some 9, op := Op.call { callee := Callee.builtin Builtin.append, args := #[Operand.tmp 7, Operand.tmp 8], argTypes := #[22, 22] }, type := 22, pos := "law.go:86", after := #[{ on := 0, ground := Ground.data }, { on := 1, ground := Ground.data }], guard := none }, { dst := some 10, op := Op.load 31 (Operand.tmp 4), type := 31, pos := "law.go:86", after := #[], guard := none }, { dst := some 11, op := Op.buildSlice 22 1 #[(0, Operand.tmp 10)], type := 22, pos := "law.go:86", after := #[{ on := 3, ground := Ground.data }], guard := none }, { dst := some 12, op := Op.call { callee := Callee.builtin Builtin.append, args := #[Operand.tmp 9, Operand.tmp 11], argTypes := #[22, 22] }, type := 22, pos := "law.go:86", after := #[{ on := 2, ground := Ground.data }, { on := 4, ground := Ground.data }, { on := 2, ground := Ground.chain }], guard := none }, { dst := some 13, op := Op.load 27 (Operand.tmp 5), type := 27, pos := "law.go:86", after := #[], guard := none }, { dst := some 14, op := Op.call { callee := Callee.value (Operand.func 9), args := #[Operand.tmp 12, Operand.tmp 13], argTypes := #[22, 27] }, type := 4, pos := "law.go:86", after := #[{ on := 5, ground := Ground.data }, { on := 6, ground := Ground.data }, { on := 5, ground := Ground.chain }], guard := none }, { dst := some 15, op := Op.unOp UnOp.not 4 (Operand.tmp 14), type := 4, pos := "law.go:86", after := #[{ on := 7, ground := Ground.data }], guard := none }] true).wp Try.prog Q { tmps := #[.slice a n cp, x1, x2, x3, .pointer (some ⟨g4, 0, none⟩), .pointer (some ⟨g5, 0, none⟩), x6, x7, x8, x9, x10, x11, x12, x13, x14, x15, x16, x17, x18, x19, x20, x21, x22, x23, x24, x25, x26, x27, x28, x29, x30, x31, x32, x33, x34, x35, x36, x37, x38, x39, x40, x41, x42, x43, x44, x45, x46, x47, x48, x49, x50, x51, x52, x53, x54, x55, x56, x57, x58], defers := ds } A := by
  refine Code.wp_mono (Q := fun x a' w' => match x with | .normal => Q .normal a' w' | _ => False) (by intro x a' w' h; cases x <;> first | exact h | exact h.elim) ?_
  refine wp_region_held (S := fun V => Below A.heap.size A V) (by kernel_rfl) ?_
  have hS0 : Hid (Below A.heap.size A A.drew) := below_drew0 A
  change wpAnyH Try.prog .any _ _ (fun V => Below A.heap.size A V) 9 (Array.replicate 9 false) _ A.drew
  obtain ⟨V0, hV0⟩ : ∃ V0, A.drew = V0 := ⟨_, rfl⟩
  rw [hV0]
  rw [hV0] at hS0
  obtain ⟨i0, hi0, hz0, hz1, hz2⟩ := info31
  have HI0 : Hid (Try.prog.info? 31 = some i0 ∧ i0.zero = some (.agg #[.string ⟨#[]⟩, .string ⟨#[]⟩, .string ⟨#[]⟩, .int .i64 0, .bool false]) ∧ i0.size = 5 ∧ i0.bytes ≤ 64) := ⟨hi0, hz0, hz1, hz2⟩
  clear hi0 hz0 hz1 hz2
  clear hV0
  refine wpAnyH_take (i := 1) (oi := { dst := some 8, op := Op.move (Operand.tmp 0), type := 22, pos := "law.go:86", after := #[], guard := none }) (v := .slice a n cp) rfl (by kernel_rfl) (by kernel_rfl) (by kernel_rfl) (fun _ _ _ h => h.elim) (Or.inl ⟨by rfl, ?y1⟩) hS0.out ?_
  case y1 =>
    intro V hV
    go_simp
  simp only [Act.put, List.setIfInBounds_toArray, List.set_cons_zero, List.set_cons_succ]
  refine wpAnyH_take (i := 3) (oi := { dst := some 10, op := Op.load 31 (Operand.tmp 4), type := 31, pos := "law.go:86", after := #[], guard := none }) (v := .agg #[.string r.who, .string r.ch, .string r.pre, iv r.right, .bool r.deny]) rfl (by kernel_rfl) (by kernel_rfl) (by kernel_rfl) (fun _ _ _ h => h.elim) (yieldsIf_load_mid (by rfl) _ _ rfl _ _ rfl ([.string r.who, .string r.ch, .string r.pre, iv r.right, .bool r.deny]) _ (fun V hV => rangeAt_same (HR.out.range 0 5) ((show Below A.heap.size A V from hV).block _ (HR.out.lt))) Try.underlying31 rfl (size31)) hS0.out ?_
  simp only [Act.put, List.setIfInBounds_toArray, List.set_cons_zero, List.set_cons_succ]
  refine wpAnyH_take (i := 6) (oi := { dst := some 13, op := Op.load 27 (Operand.tmp 5), type := 27, pos := "law.go:86", after := #[], guard := none }) (v := .agg #[.string k.s.user, .slice k.s.ta k.s.tn k.s.tc, iv k.s.role, .string k.ch, .string k.path, iv k.right]) rfl (by kernel_rfl) (by kernel_rfl) (by kernel_rfl) (fun _ _ _ h => h.elim) (yieldsIf_load_mid (by rfl) _ _ rfl _ _ rfl ([.string k.s.user, .slice k.s.ta k.s.tn k.s.tc, iv k.s.role, .string k.ch, .string k.path, iv k.right]) _ (fun V hV => rangeAt_same (HA.out.range 0 6) ((show Below A.heap.size A V from hV).block _ (HA.out.lt))) Try.underlying27 rfl (size27)) hS0.out ?_
  simp only [Act.put, List.setIfInBounds_toArray, List.set_cons_zero, List.set_cons_succ]
  refine wpAnyH_ready (rs := [0, 4]) (by kernel_rfl) (by simp) (AllReadyH.cons (i := 0) (o := { dst := some 7, op := Op.buildSlice 22 0 #[], type := 22, pos := "law.go:86", after := #[], guard := none }) rfl ?_ (AllReadyH.cons (i := 4) (o := { dst := some 11, op := Op.buildSlice 22 1 #[(0, Operand.tmp 10)], type := 22, pos := "law.go:86", after := #[{ on := 3, ground := Ground.data }], guard := none }) rfl ?_ AllReadyH.nil))
  · intro K1 hK1
    rw [if_pos (by rfl)]
    obtain ⟨V1, hv1⟩ : ∃ V, V0.alloc (.cells #[] 31) = V := ⟨_, rfl⟩
    obtain ⟨q1, hq1⟩ : ∃ q, V0.heap.size = q := ⟨_, rfl⟩
    have hb1 : Hid (Below V0.heap.size V0 V1) := by rw [← hv1]; exact below_al _ _
    have hS1 : Hid (Below A.heap.size A V1) := hS0.out.trans (hb1.out.mono hS0.out.size)
    have HQ1 : Hid (A.heap.size ≤ q1 ∧ q1 ≤ V1.heap.size) := by rw [← hq1]; exact ⟨hS0.out.size, hb1.out.size⟩
    go_wp2
    clear hv1 hq1 hb1
    refine hK1.out _ _ hS1.out ?_
    clear hK1
    intro _
    try simp only [Act.put, List.setIfInBounds_toArray, List.set_cons_zero, List.set_cons_succ]
    refine wpAnyH_ready (rs := [2, 4]) (by kernel_rfl) (by simp) (AllReadyH.cons (i := 2) (o := { dst := some 9, op := Op.call { callee := Callee.builtin Builtin.append, args := #[Operand.tmp 7, Operand.tmp 8], argTypes := #[22, 22] }, type := 22, pos := "law.go:86", after := #[{ on := 0, ground := Ground.data }, { on := 1, ground := Ground.data }], guard := none }) rfl ?_ (AllReadyH.cons (i := 4) (o := { dst := some 11, op := Op.buildSlice 22 1 #[(0, Operand.tmp 10)], type := 22, pos := "law.go:86", after := #[{ on := 3, ground := Ground.data }], guard := none }) rfl ?_ AllReadyH.nil))
    · intro K1 hK1
      obtain ⟨B2, hB2⟩ : ∃ B, V1.heap.size = B := ⟨_, rfl⟩
      refine step_append_bs (by rfl) 9 rfl (.tmp 7) (.tmp 8) 22 rfl V1 31 i0 _ 5 B2 Try.underlying22 HI0.out.1 HI0.out.2.1 HI0.out.2.2.1 HI0.out.2.2.2 rfl (by omega) (.slice (some ⟨q1, 0, none⟩) 0 0) 0 [] (.inl ⟨_, rfl, Rd.nil _ _ _ _, .inr ⟨q1, 0, rfl⟩⟩) a n cp (flat l) rfl rfl ((HL.out.below hS1.out (Nat.le_refl _))) (by rw [hB2]; exact Nat.le_refl _) (by have := HN.out; omega) ?_
      intro v2 V2 hb2 hw2
      have hw22 : Hid (Below V1.heap.size V1 V2) := by rw [hB2]; exact hw2.out
      have hS2 : Hid (Below A.heap.size A V2) := hS1.out.trans (hw22.out.mono hS1.out.size)
      have BS2 : Hid (Bs 31 5 B2 V2 v2 n (flat l)) := by have h := hb2.out; rw [Nat.zero_add, List.nil_append] at h; exact h
      have HBB2 : Hid (A.heap.size ≤ B2 ∧ B2 ≤ V2.heap.size) := by rw [← hB2]; exact ⟨hS1.out.size, hw22.out.size⟩
      clear hB2 hb2 hw2
      refine hK1.out _ _ hS2.out ?_
      clear hK1
      intro _
      try simp only [Act.put, List.setIfInBounds_toArray, List.set_cons_zero, List.set_cons_succ]
      refine wpAnyH_ready (rs := [4]) (by kernel_rfl) (by simp) (AllReadyH.cons (i := 4) (o := { dst := some 11, op := Op.buildSlice 22 1 #[(0, Operand.tmp 10)], type := 22, pos := "law.go:86", after := #[{ on := 3, ground := Ground.data }], guard := none }) rfl ?_ AllReadyH.nil)
      · intro K1 hK1
        rw [if_pos (by rfl)]
        obtain ⟨V3, hv3⟩ : ∃ V, V2.alloc (.cells #[.string r.who, .string r.ch, .string r.pre, iv r.right, .bool r.deny] 31) = V := ⟨_, rfl⟩
        obtain ⟨q3, hq3⟩ : ∃ q, V2.heap.size = q := ⟨_, rfl⟩
        have hb3 : Hid (Below V2.heap.size V2 V3) := by rw [← hv3]; exact below_al _ _
        have hS3 : Hid (Below A.heap.size A V3) := hS2.out.trans (hb3.out.mono hS2.out.size)
        have BS3 : Hid (Bs 31 5 B2 V3 v2 n (flat l)) := bs_below BS2.out hb3.out
        have RD3 : Hid (Rd V3 31 5 (some ⟨q3, 0, none⟩) 1 (flat [r])) := by rw [← hv3, ← hq3]; exact rd_one _ r
        have HBB3 : Hid (A.heap.size ≤ B2 ∧ B2 ≤ V3.heap.size) := ⟨HBB2.out.1, Nat.le_trans HBB2.out.2 hb3.out.size⟩
        go_wp2
        clear hv3 hq3 hb3
        refine hK1.out _ _ hS3.out ?_
        clear hK1
        intro _
        try simp only [Act.put, List.setIfInBounds_toArray, List.set_cons_zero, List.set_cons_succ]
        refine wpAnyH_ready (rs := [5]) (by kernel_rfl) (by simp) (AllReadyH.cons (i := 5) (o := { dst := some 12, op := Op.call { callee := Callee.builtin Builtin.append, args := #[Operand.tmp 9, Operand.tmp 11], argTypes := #[22, 22] }, type := 22, pos := "law.go:86", after := #[{ on := 2, ground := Ground.data }, { on := 4, ground := Ground.data }, { on := 2, ground := Ground.chain }], guard := none }) rfl ?_ AllReadyH.nil)
        · intro K1 hK1
          have hsz4 : B2 ≤ V3.heap.size := by have h1 := HBB3.out.2; have h2 := h1; omega
          refine step_append_bs (by rfl) 12 rfl (.tmp 9) (.tmp 11) 22 rfl V3 31 i0 _ 5 B2 Try.underlying22 HI0.out.1 HI0.out.2.1 HI0.out.2.2.1 HI0.out.2.2.2 rfl (by omega) v2 n (flat l) BS3.out (some ⟨q3, 0, none⟩) 1 1 (flat [r]) rfl rfl RD3.out hsz4 (by have := HN.out; omega) ?_
          intro v4 V4 hb4 hw4
          have hS4 : Hid (Below A.heap.size A V4) := hS3.out.trans (hw4.out.mono HBB3.out.1)
          obtain ⟨a4, c4, he4, RU4⟩ : ∃ a c, v4 = .slice a (n + 1) c ∧ Hid (RuS V4 a (n + 1) (l ++ [r])) := rus_of_bs (by have h := hb4.out; rw [← flat_app] at h; exact h) HSH.out
          subst he4
          clear hb4 hw4
          refine hK1.out _ _ hS4.out ?_
          clear hK1
          intro _
          try simp only [Act.put, List.setIfInBounds_toArray, List.set_cons_zero, List.set_cons_succ]
          refine wpAnyH_ready (rs := [7]) (by kernel_rfl) (by simp) (AllReadyH.cons (i := 7) (o := { dst := some 14, op := Op.call { callee := Callee.value (Operand.func 9), args := #[Operand.tmp 12, Operand.tmp 13], argTypes := #[22, 27] }, type := 4, pos := "law.go:86", after := #[{ on := 5, ground := Ground.data }, { on := 6, ground := Ground.data }, { on := 5, ground := Ground.chain }], guard := none }) rfl ?_ AllReadyH.nil)
          · intro K1 hK1
            rw [if_pos (by rfl)]
            have HC5 := light_is (l ++ [r]) a4 (n + 1) c4 k V4 RU4.out (by have := HN.out; omega) (HK.out.below hS4.out)
            go_wp2_with fail
            refine HC5.mono ?_
            rintro e V5 ⟨b5, rfl, hb5⟩
            dsimp only
            clear HC5
            have hS5 : Hid (Below A.heap.size A V5) := hS4.out.trans (hb5.mono hS4.out.size)
            have RU5 : Hid (RuS V5 a4 (n + 1) (l ++ [r])) := RU4.out.below hb5
            clear hb5
            refine hK1.out _ _ hS5.out ?_
            clear hK1
            intro _
            try simp only [Act.put, List.setIfInBounds_toArray, List.set_cons_zero, List.set_cons_succ]
            refine wpAnyH_take (i := 8) (oi := { dst := some 15, op := Op.unOp UnOp.not 4 (Operand.tmp 14), type := 4, pos := "law.go:86", after := #[{ on := 7, ground := Ground.data }], guard := none }) (v := .bool (!b5)) rfl (by kernel_rfl) (by kernel_rfl) (by kernel_rfl) (fun _ _ _ h => h.elim) (Or.inl ⟨by rfl, ?y2⟩) hS5.out ?_
            case y2 =>
              intro V hV
              go_simp
            simp only [Act.put, List.setIfInBounds_toArray, List.set_cons_zero, List.set_cons_succ]
            refine wpAnyH_done (by kernel_rfl) ?_ _
            exact hQ _ _ _ _ _ _ _ hS5.out
    · intro K1 hK1
      rw [if_pos (by rfl)]
      obtain ⟨V2, hv2⟩ : ∃ V, V1.alloc (.cells #[.string r.who, .string r.ch, .string r.pre, iv r.right, .bool r.deny] 31) = V := ⟨_, rfl⟩
      obtain ⟨q2, hq2⟩ : ∃ q, V1.heap.size = q := ⟨_, rfl⟩
      have hb2 : Hid (Below V1.heap.size V1 V2) := by rw [← hv2]; exact below_al _ _
      have hS2 : Hid (Below A.heap.size A V2) := hS1.out.trans (hb2.out.mono hS1.out.size)
      have RD2 : Hid (Rd V2 31 5 (some ⟨q2, 0, none⟩) 1 (flat [r])) := by rw [← hv2, ← hq2]; exact rd_one _ r
      go_wp2
      clear hv2 hq2 hb2
      refine hK1.out _ _ hS2.out ?_
      clear hK1
      intro _
      try simp only [Act.put, List.setIfInBounds_toArray, List.set_cons_zero, List.set_cons_succ]
      refine wpAnyH_ready (rs := [2]) (by kernel_rfl) (by simp) (AllReadyH.cons (i := 2) (o := { dst := some 9, op := Op.call { callee := Callee.builtin Builtin.append, args := #[Operand.tmp 7, Operand.tmp 8], argTypes := #[22, 22] }, type := 22, pos := "law.go:86", after := #[{ on := 0, ground := Ground.data }, { on := 1, ground := Ground.data }], guard := none }) rfl ?_ AllReadyH.nil)
      · intro K1 hK1
        obtain ⟨B3, hB3⟩ : ∃ B, V2.heap.size = B := ⟨_, rfl⟩
        refine step_append_bs (by rfl) 9 rfl (.tmp 7) (.tmp 8) 22 rfl V2 31 i0 _ 5 B3 Try.underlying22 HI0.out.1 HI0.out.2.1 HI0.out.2.2.1 HI0.out.2.2.2 rfl (by omega) (.slice (some ⟨q1, 0, none⟩) 0 0) 0 [] (.inl ⟨_, rfl, Rd.nil _ _ _ _, .inr ⟨q1, 0, rfl⟩⟩) a n cp (flat l) rfl rfl ((HL.out.below hS2.out (Nat.le_refl _))) (by rw [hB3]; exact Nat.le_refl _) (by have := HN.out; omega) ?_
        intro v3 V3 hb3 hw3
        have hw32 : Hid (Below V2.heap.size V2 V3) := by rw [hB3]; exact hw3.out
        have hS3 : Hid (Below A.heap.size A V3) := hS2.out.trans (hw32.out.mono hS2.out.size)
        have RD3 : Hid (Rd V3 31 5 (some ⟨q2, 0, none⟩) 1 (flat [r])) := RD2.out.below hw32.out (Nat.le_refl _)
        have BS3 : Hid (Bs 31 5 B3 V3 v3 n (flat l)) := by have h := hb3.out; rw [Nat.zero_add, List.nil_append] at h; exact h
        have HBB3 : Hid (A.heap.size ≤ B3 ∧ B3 ≤ V3.heap.size) := by rw [← hB3]; exact ⟨hS2.out.size, hw32.out.size⟩
        clear hB3 hb3 hw3
        refine hK1.out _ _ hS3.out ?_
        clear hK1
        intro _
        try simp only [Act.put, List.setIfInBounds_toArray, List.set_cons_zero, List.set_cons_succ]
        refine wpAnyH_ready (rs := [5]) (by kernel_rfl) (by simp) (AllReadyH.cons (i := 5) (o := { dst := some 12, op := Op.call { callee := Callee.builtin Builtin.append, args := #[Operand.tmp 9, Operand.tmp 11], argTypes := #[22, 22] }, type := 22, pos := "law.go:86", after := #[{ on := 2, ground := Ground.data }, { on := 4, ground := Ground.data }, { on := 2, ground := Ground.chain }], guard := none }) rfl ?_ AllReadyH.nil)
        · intro K1 hK1
          have hsz4 : B3 ≤ V3.heap.size := by have h1 := HBB3.out.2; have h2 := h1; omega
          refine step_append_bs (by rfl) 12 rfl (.tmp 9) (.tmp 11) 22 rfl V3 31 i0 _ 5 B3 Try.underlying22 HI0.out.1 HI0.out.2.1 HI0.out.2.2.1 HI0.out.2.2.2 rfl (by omega) v3 n (flat l) BS3.out (some ⟨q2, 0, none⟩) 1 1 (flat [r]) rfl rfl RD3.out hsz4 (by have := HN.out; omega) ?_
          intro v4 V4 hb4 hw4
          have hS4 : Hid (Below A.heap.size A V4) := hS3.out.trans (hw4.out.mono HBB3.out.1)
          obtain ⟨a4, c4, he4, RU4⟩ : ∃ a c, v4 = .slice a (n + 1) c ∧ Hid (RuS V4 a (n + 1) (l ++ [r])) := rus_of_bs (by have h := hb4.out; rw [← flat_app] at h; exact h) HSH.out
          subst he4
          clear hb4 hw4
          refine hK1.out _ _ hS4.out ?_
          clear hK1
          intro _
          try simp only [Act.put, List.setIfInBounds_toArray, List.set_cons_zero, List.set_cons_succ]
          refine wpAnyH_ready (rs := [7]) (by kernel_rfl) (by simp) (AllReadyH.cons (i := 7) (o := { dst := some 14, op := Op.call { callee := Callee.value (Operand.func 9), args := #[Operand.tmp 12, Operand.tmp 13], argTypes := #[22, 27] }, type := 4, pos := "law.go:86", after := #[{ on := 5, ground := Ground.data }, { on := 6, ground := Ground.data }, { on := 5, ground := Ground.chain }], guard := none }) rfl ?_ AllReadyH.nil)
          · intro K1 hK1
            rw [if_pos (by rfl)]
            have HC5 := light_is (l ++ [r]) a4 (n + 1) c4 k V4 RU4.out (by have := HN.out; omega) (HK.out.below hS4.out)
            go_wp2_with fail
            refine HC5.mono ?_
            rintro e V5 ⟨b5, rfl, hb5⟩
            dsimp only
            clear HC5
            have hS5 : Hid (Below A.heap.size A V5) := hS4.out.trans (hb5.mono hS4.out.size)
            have RU5 : Hid (RuS V5 a4 (n + 1) (l ++ [r])) := RU4.out.below hb5
            clear hb5
            refine hK1.out _ _ hS5.out ?_
            clear hK1
            intro _
            try simp only [Act.put, List.setIfInBounds_toArray, List.set_cons_zero, List.set_cons_succ]
            refine wpAnyH_take (i := 8) (oi := { dst := some 15, op := Op.unOp UnOp.not 4 (Operand.tmp 14), type := 4, pos := "law.go:86", after := #[{ on := 7, ground := Ground.data }], guard := none }) (v := .bool (!b5)) rfl (by kernel_rfl) (by kernel_rfl) (by kernel_rfl) (fun _ _ _ h => h.elim) (Or.inl ⟨by rfl, ?y3⟩) hS5.out ?_
            case y3 =>
              intro V hV
              go_simp
            simp only [Act.put, List.setIfInBounds_toArray, List.set_cons_zero, List.set_cons_succ]
            refine wpAnyH_done (by kernel_rfl) ?_ _
            exact hQ _ _ _ _ _ _ _ hS5.out
  · intro K1 hK1
    rw [if_pos (by rfl)]
    obtain ⟨V1, hv1⟩ : ∃ V, V0.alloc (.cells #[.string r.who, .string r.ch, .string r.pre, iv r.right, .bool r.deny] 31) = V := ⟨_, rfl⟩
    obtain ⟨q1, hq1⟩ : ∃ q, V0.heap.size = q := ⟨_, rfl⟩
    have hb1 : Hid (Below V0.heap.size V0 V1) := by rw [← hv1]; exact below_al _ _
    have hS1 : Hid (Below A.heap.size A V1) := hS0.out.trans (hb1.out.mono hS0.out.size)
    have RD1 : Hid (Rd V1 31 5 (some ⟨q1, 0, none⟩) 1 (flat [r])) := by rw [← hv1, ← hq1]; exact rd_one _ r
    go_wp2
    clear hv1 hq1 hb1
    refine hK1.out _ _ hS1.out ?_
    clear hK1
    intro _
    try simp only [Act.put, List.setIfInBounds_toArray, List.set_cons_zero, List.set_cons_succ]
    refine wpAnyH_ready (rs := [0]) (by kernel_rfl) (by simp) (AllReadyH.cons (i := 0) (o := { dst := some 7, op := Op.buildSlice 22 0 #[], type := 22, pos := "law.go:86", after := #[], guard := none }) rfl ?_ AllReadyH.nil)
    · intro K1 hK1
      rw [if_pos (by rfl)]
      obtain ⟨V2, hv2⟩ : ∃ V, V1.alloc (.cells #[] 31) = V := ⟨_, rfl⟩
      obtain ⟨q2, hq2⟩ : ∃ q, V1.heap.size = q := ⟨_, rfl⟩
      have hb2 : Hid (Below V1.heap.size V1 V2) := by rw [← hv2]; exact below_al _ _
      have hS2 : Hid (Below A.heap.size A V2) := hS1.out.trans (hb2.out.mono hS1.out.size)
      have RD2 : Hid (Rd V2 31 5 (some ⟨q1, 0, none⟩) 1 (flat [r])) := RD1.out.below hb2.out (Nat.le_refl _)
      have HQ2 : Hid (A.heap.size ≤ q2 ∧ q2 ≤ V2.heap.size) := by rw [← hq2]; exact ⟨hS1.out.size, hb2.out.size⟩
      go_wp2
      clear hv2 hq2 hb2
      refine hK1.out _ _ hS2.out ?_
      clear hK1
      intro _
      try simp only [Act.put, List.setIfInBounds_toArray, List.set_cons_zero, List.set_cons_succ]
      refine wpAnyH_ready (rs := [2]) (by kernel_rfl) (by simp) (AllReadyH.cons (i := 2) (o := { dst := some 9, op := Op.call { callee := Callee.builtin Builtin.append, args := #[Operand.tmp 7, Operand.tmp 8], argTypes := #[22, 22] }, type := 22, pos := "law.go:86", after := #[{ on := 0, ground := Ground.data }, { on := 1, ground := Ground.data }], guard := none }) rfl ?_ AllReadyH.nil)
      · intro K1 hK1
        obtain ⟨B3, hB3⟩ : ∃ B, V2.heap.size = B := ⟨_, rfl⟩
        refine step_append_bs (by rfl) 9 rfl (.tmp 7) (.tmp 8) 22 rfl V2 31 i0 _ 5 B3 Try.underlying22 HI0.out.1 HI0.out.2.1 HI0.out.2.2.1 HI0.out.2.2.2 rfl (by omega) (.slice (some ⟨q2, 0, none⟩) 0 0) 0 [] (.inl ⟨_, rfl, Rd.nil _ _ _ _, .inr ⟨q2, 0, rfl⟩⟩) a n cp (flat l) rfl rfl ((HL.out.below hS2.out (Nat.le_refl _))) (by rw [hB3]; exact Nat.le_refl _) (by have := HN.out; omega) ?_
        intro v3 V3 hb3 hw3
        have hw32 : Hid (Below V2.heap.size V2 V3) := by rw [hB3]; exact hw3.out
        have hS3 : Hid (Below A.heap.size A V3) := hS2.out.trans (hw32.out.mono hS2.out.size)
        have RD3 : Hid (Rd V3 31 5 (some ⟨q1, 0, none⟩) 1 (flat [r])) := RD2.out.below hw32.out (Nat.le_refl _)
        have BS3 : Hid (Bs 31 5 B3 V3 v3 n (flat l)) := by have h := hb3.out; rw [Nat.zero_add, List.nil_append] at h; exact h
        have HBB3 : Hid (A.heap.size ≤ B3 ∧ B3 ≤ V3.heap.size) := by rw [← hB3]; exact ⟨hS2.out.size, hw32.out.size⟩
        clear hB3 hb3 hw3
        refine hK1.out _ _ hS3.out ?_
        clear hK1
        intro _
        try simp only [Act.put, List.setIfInBounds_toArray, List.set_cons_zero, List.set_cons_succ]
        refine wpAnyH_ready (rs := [5]) (by kernel_rfl) (by simp) (AllReadyH.cons (i := 5) (o := { dst := some 12, op := Op.call { callee := Callee.builtin Builtin.append, args := #[Operand.tmp 9, Operand.tmp 11], argTypes := #[22, 22] }, type := 22, pos := "law.go:86", after := #[{ on := 2, ground := Ground.data }, { on := 4, ground := Ground.data }, { on := 2, ground := Ground.chain }], guard := none }) rfl ?_ AllReadyH.nil)
        · intro K1 hK1
          have hsz4 : B3 ≤ V3.heap.size := by have h1 := HBB3.out.2; have h2 := h1; omega
          refine step_append_bs (by rfl) 12 rfl (.tmp 9) (.tmp 11) 22 rfl V3 31 i0 _ 5 B3 Try.underlying22 HI0.out.1 HI0.out.2.1 HI0.out.2.2.1 HI0.out.2.2.2 rfl (by omega) v3 n (flat l) BS3.out (some ⟨q1, 0, none⟩) 1 1 (flat [r]) rfl rfl RD3.out hsz4 (by have := HN.out; omega) ?_
          intro v4 V4 hb4 hw4
          have hS4 : Hid (Below A.heap.size A V4) := hS3.out.trans (hw4.out.mono HBB3.out.1)
          obtain ⟨a4, c4, he4, RU4⟩ : ∃ a c, v4 = .slice a (n + 1) c ∧ Hid (RuS V4 a (n + 1) (l ++ [r])) := rus_of_bs (by have h := hb4.out; rw [← flat_app] at h; exact h) HSH.out
          subst he4
          clear hb4 hw4
          refine hK1.out _ _ hS4.out ?_
          clear hK1
          intro _
          try simp only [Act.put, List.setIfInBounds_toArray, List.set_cons_zero, List.set_cons_succ]
          refine wpAnyH_ready (rs := [7]) (by kernel_rfl) (by simp) (AllReadyH.cons (i := 7) (o := { dst := some 14, op := Op.call { callee := Callee.value (Operand.func 9), args := #[Operand.tmp 12, Operand.tmp 13], argTypes := #[22, 27] }, type := 4, pos := "law.go:86", after := #[{ on := 5, ground := Ground.data }, { on := 6, ground := Ground.data }, { on := 5, ground := Ground.chain }], guard := none }) rfl ?_ AllReadyH.nil)
          · intro K1 hK1
            rw [if_pos (by rfl)]
            have HC5 := light_is (l ++ [r]) a4 (n + 1) c4 k V4 RU4.out (by have := HN.out; omega) (HK.out.below hS4.out)
            go_wp2_with fail
            refine HC5.mono ?_
            rintro e V5 ⟨b5, rfl, hb5⟩
            dsimp only
            clear HC5
            have hS5 : Hid (Below A.heap.size A V5) := hS4.out.trans (hb5.mono hS4.out.size)
            have RU5 : Hid (RuS V5 a4 (n + 1) (l ++ [r])) := RU4.out.below hb5
            clear hb5
            refine hK1.out _ _ hS5.out ?_
            clear hK1
            intro _
            try simp only [Act.put, List.setIfInBounds_toArray, List.set_cons_zero, List.set_cons_succ]
            refine wpAnyH_take (i := 8) (oi := { dst := some 15, op := Op.unOp UnOp.not 4 (Operand.tmp 14), type := 4, pos := "law.go:86", after := #[{ on := 7, ground := Ground.data }], guard := none }) (v := .bool (!b5)) rfl (by kernel_rfl) (by kernel_rfl) (by kernel_rfl) (fun _ _ _ h => h.elim) (Or.inl ⟨by rfl, ?y4⟩) hS5.out ?_
            case y4 =>
              intro V hV
              go_simp
            simp only [Act.put, List.setIfInBounds_toArray, List.set_cons_zero, List.set_cons_succ]
            refine wpAnyH_done (by kernel_rfl) ?_ _
            exact hQ _ _ _ _ _ _ _ hS5.out
#print axioms apart_light
end Go.Proofs.Ytngkajeghmogmaa.Oct
