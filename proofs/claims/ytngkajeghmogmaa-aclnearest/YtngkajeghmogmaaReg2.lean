/-
  Layer 17 (acl): the drawn regions in which it is decided.
-/
import Derived.Test.YtngkajeghmogmaaReg1
namespace Go.Proofs.Ytngkajeghmogmaa.Oct
open Go.RowKit Go.Shelf
set_option linter.unusedSimpArgs false
set_option linter.unusedVariables false

set_option maxRecDepth 100000 in
set_option maxHeartbeats 4000000 in
theorem mono_dec {Q : Exit → Act → World → Prop} {x1 x2 x3 x6 x7 x8 x9 x10 x11 x12 x13 x14 x15 x16 x17 x18 x19 x20 x21 x22 x23 x24 x25 x26 x27 x28 x29 x30 x31 x32 x33 x34 x35 x36 x37 x38 x39 x40 x41 x42 x43 x44 x45 x46 x47 x48 x49 x50 x51 x52 x53 : Value} {ds : List Deferred} {A : World} {g4 g5 n cp : Nat} {a : Option Addr} {r : Ru} {k : Ak} {l : List Ru}
    (HL : Hid (Rd A 31 5 a n (flat l))) (HN : Hid (n ≤ 2199023255551)) (HSH : Hid (∀ q ∈ l ++ [r], q.short)) (HR : Hid (Blk A g4 31 [.string r.who, .string r.ch, .string r.pre, iv r.right, .bool r.deny])) (HA : Hid (Blk A g5 27 [.string k.s.user, .slice k.s.ta k.s.tn k.s.tc, iv k.s.role, .string k.ch, .string k.path, iv k.right])) (HK : Hid (k.at A)) (HRU : Hid (RuS A a n l)) (HN1 : Hid (n + 1 ≤ 2199023255551))
    (hQ : ∀ V (q q2 : Nat) (v : Value) (a2 : Option Addr) (c2 : Nat), Below A.heap.size A V → Q .normal { tmps := #[.slice a n cp, x1, x2, x3, .pointer (some ⟨g4, 0, none⟩), .pointer (some ⟨g5, 0, none⟩), x6, .bool (dec l k), .bool (dec (l ++ [r]) k), x9, x10, x11, x12, x13, x14, x15, x16, x17, x18, .slice a n cp, .agg #[.string k.s.user, .slice k.s.ta k.s.tn k.s.tc, iv k.s.role, .string k.ch, .string k.path, iv k.right], .bool (dec l k), .slice (some ⟨q, 0, none⟩) 0 0, .slice a n cp, v, .agg #[.string r.who, .string r.ch, .string r.pre, iv r.right, .bool r.deny], .slice (some ⟨q2, 0, none⟩) 1 1, .slice a2 (n + 1) c2, .agg #[.string k.s.user, .slice k.s.ta k.s.tn k.s.tc, iv k.s.role, .string k.ch, .string k.path, iv k.right], .bool (dec (l ++ [r]) k), x30, x31, x32, x33, x34, x35, x36, x37, x38, x39, x40, x41, x42, x43, x44, x45, x46, x47, x48, x49, x50, x51, x52, x53], defers := ds } V) :
    (Code.region 3 #[{ dst := some 19, op := Op.move (Operand.tmp 0), type := 22, pos := "law.go:67", after := #[], guard := none }, { dst := some 20, op := Op.load 27 (Operand.tmp 5), type := 27, pos := "law.go:67", after := #[], guard := none }, { dst := some 21, op := Op.call { callee := Callee.value (Operand.func 15), args := #[Operand.tmp 19, Operand.tmp 20], argTypes := #[22, 27] }, type := 4, pos := "law.go:67", after := #[{ on := 0, ground := Ground.data }, { on := 1, ground := Ground.data }], guard := none }, { dst := some 22, op := Op.buildSlice 22 0 #[], type := 22, pos := "law.go:67", after := #[], guard := none }, { dst := some 23, op := Op.move (Operand.tmp 0), type := 22, pos := "law.go:67", after := #[], guard := none }, { dst := some 24, op := Op.call { callee := Callee.builtin Builtin.append, args := #[Operand.tmp 22, Operand.tmp 23], argTypes := #[22, 22] }, type := 22, pos := "law.go:67", after := #[{ on := 3, ground := Ground.data }, { on := 4, ground := Ground.data }, { on := 2, ground := Ground.chain }], guard := none }, { dst := some 25, op := Op.load 31 (Operand.tmp 4), type := 31, pos := "law.go:67", after := #[], guard := none }, { dst := some 26, op := Op.buildSlice 22 1 #[(0, Operand.tmp 25)], type := 22, pos := "law.go:67", after := #[{ on := 6, ground := Ground.data }], guard := none }, { dst := some 27, op := Op.call { callee := Callee.builtin Builtin.append, args := #[Operand.tmp 24, Operand.tmp 26], argTypes := #[22, 22] }, type := 22, pos := "law.go:67", after := #[{ on := 5, ground := Ground.data }, { on := 7, ground := Ground.data }, { on := 5, ground := Ground.chain }], guard := none }, { dst := some 28, op := Op.load 27 (Operand.tmp 5), type := 27, pos := "law.go:67", after := #[], guard := none }, { dst := some 29, op := Op.call { callee := Callee.value (Operand.func 15), args := #[Operand.tmp 27, Operand.tmp 28], argTypes := #[22, 27] }, type := 4, pos := "law.go:67", after := #[{ on := 8, ground := Ground.data }, { on := 9, ground := Ground.data }, { on := 8, ground := Ground.chain }], guard := none }, { dst := some 7, op := Op.assign (Operand.tmp 21), type := 4, pos := "law.go:67", after := #[{ on := 2, ground := Ground.data }, { on := 10, ground := Ground.chain }, { on := 0, ground := Ground.phase }, { on := 1, ground := Ground.phase }, { on := 2, ground := Ground.phase }, { on := 3, ground := Ground.textOnly Departure.lateStores }, { on := 4, ground := Ground.textOnly Departure.lateStores }, { on := 5, ground := Ground.textOnly Departure.lateStoresUnsure }, { on := 6, ground := Ground.textOnly Departure.lateStores }, { on := 7, ground := Ground.textOnly Departure.lateStores }, { on := 8, ground := Ground.textOnly Departure.lateStoresUnsure }, { on := 9, ground := Ground.textOnly Departure.lateStores }, { on := 10, ground := Ground.textOnly Departure.lateStoresUnsure }], guard := none }, { dst := some 8, op := Op.assign (Operand.tmp 29), type := 4, pos := "law.go:67", after := #[{ on := 10, ground := Ground.data }, { on := 11, ground := Ground.chain }, { on := 0, ground := Ground.phase }, { on := 1, ground := Ground.phase }, { on := 2, ground := Ground.phase }, { on := 3, ground := Ground.phase }, { on := 4, ground := Ground.phase }, { on := 5, ground := Ground.phase }, { on := 6, ground := Ground.phase }, { on := 7, ground := Ground.phase }, { on := 8, ground := Ground.phase }, { on := 9, ground := Ground.phase }, { on := 10, ground := Ground.phase }, { on := 11, ground := Ground.phase }], guard := none }] true).wp Try.prog Q { tmps := #[.slice a n cp, x1, x2, x3, .pointer (some ⟨g4, 0, none⟩), .pointer (some ⟨g5, 0, none⟩), x6, x7, x8, x9, x10, x11, x12, x13, x14, x15, x16, x17, x18, x19, x20, x21, x22, x23, x24, x25, x26, x27, x28, x29, x30, x31, x32, x33, x34, x35, x36, x37, x38, x39, x40, x41, x42, x43, x44, x45, x46, x47, x48, x49, x50, x51, x52, x53], defers := ds } A := by
  refine Code.wp_mono (Q := fun x a' w' => match x with | .normal => Q .normal a' w' | _ => False) (by intro x a' w' h; cases x <;> first | exact h | exact h.elim) ?_
  refine wp_region_held (S := fun V => Below A.heap.size A V) (by kernel_rfl) ?_
  have hS0 : Hid (Below A.heap.size A A.drew) := below_drew0 A
  change wpAnyH Try.prog .any _ _ (fun V => Below A.heap.size A V) 13 (Array.replicate 13 false) _ A.drew
  obtain ⟨V0, hV0⟩ : ∃ V0, A.drew = V0 := ⟨_, rfl⟩
  rw [hV0]
  rw [hV0] at hS0
  obtain ⟨i0, hi0, hz0, hz1, hz2⟩ := info31
  have HI0 : Hid (Try.prog.info? 31 = some i0 ∧ i0.zero = some (.agg #[.string ⟨#[]⟩, .string ⟨#[]⟩, .string ⟨#[]⟩, .int .i64 0, .bool false]) ∧ i0.size = 5 ∧ i0.bytes ≤ 64) := ⟨hi0, hz0, hz1, hz2⟩
  clear hi0 hz0 hz1 hz2
  clear hV0
  refine wpAnyH_take (i := 0) (oi := { dst := some 19, op := Op.move (Operand.tmp 0), type := 22, pos := "law.go:67", after := #[], guard := none }) (v := .slice a n cp) rfl (by kernel_rfl) (by kernel_rfl) (by kernel_rfl) (fun _ _ _ h => h.elim) (Or.inl ⟨by rfl, ?y1⟩) hS0.out ?_
  case y1 =>
    intro V hV
    go_simp
  simp only [Act.put, List.setIfInBounds_toArray, List.set_cons_zero, List.set_cons_succ]
  refine wpAnyH_take (i := 1) (oi := { dst := some 20, op := Op.load 27 (Operand.tmp 5), type := 27, pos := "law.go:67", after := #[], guard := none }) (v := .agg #[.string k.s.user, .slice k.s.ta k.s.tn k.s.tc, iv k.s.role, .string k.ch, .string k.path, iv k.right]) rfl (by kernel_rfl) (by kernel_rfl) (by kernel_rfl) (fun _ _ _ h => h.elim) (yieldsIf_load_mid (by rfl) _ _ rfl _ _ rfl ([.string k.s.user, .slice k.s.ta k.s.tn k.s.tc, iv k.s.role, .string k.ch, .string k.path, iv k.right]) _ (fun V hV => rangeAt_same (HA.out.range 0 6) ((show Below A.heap.size A V from hV).block _ (HA.out.lt))) Try.underlying27 rfl (size27)) hS0.out ?_
  simp only [Act.put, List.setIfInBounds_toArray, List.set_cons_zero, List.set_cons_succ]
  refine wpAnyH_take (i := 4) (oi := { dst := some 23, op := Op.move (Operand.tmp 0), type := 22, pos := "law.go:67", after := #[], guard := none }) (v := .slice a n cp) rfl (by kernel_rfl) (by kernel_rfl) (by kernel_rfl) (fun _ _ _ h => h.elim) (Or.inl ⟨by rfl, ?y2⟩) hS0.out ?_
  case y2 =>
    intro V hV
    go_simp
  simp only [Act.put, List.setIfInBounds_toArray, List.set_cons_zero, List.set_cons_succ]
  refine wpAnyH_take (i := 6) (oi := { dst := some 25, op := Op.load 31 (Operand.tmp 4), type := 31, pos := "law.go:67", after := #[], guard := none }) (v := .agg #[.string r.who, .string r.ch, .string r.pre, iv r.right, .bool r.deny]) rfl (by kernel_rfl) (by kernel_rfl) (by kernel_rfl) (fun _ _ _ h => h.elim) (yieldsIf_load_mid (by rfl) _ _ rfl _ _ rfl ([.string r.who, .string r.ch, .string r.pre, iv r.right, .bool r.deny]) _ (fun V hV => rangeAt_same (HR.out.range 0 5) ((show Below A.heap.size A V from hV).block _ (HR.out.lt))) Try.underlying31 rfl (size31)) hS0.out ?_
  simp only [Act.put, List.setIfInBounds_toArray, List.set_cons_zero, List.set_cons_succ]
  refine wpAnyH_take (i := 9) (oi := { dst := some 28, op := Op.load 27 (Operand.tmp 5), type := 27, pos := "law.go:67", after := #[], guard := none }) (v := .agg #[.string k.s.user, .slice k.s.ta k.s.tn k.s.tc, iv k.s.role, .string k.ch, .string k.path, iv k.right]) rfl (by kernel_rfl) (by kernel_rfl) (by kernel_rfl) (fun _ _ _ h => h.elim) (yieldsIf_load_mid (by rfl) _ _ rfl _ _ rfl ([.string k.s.user, .slice k.s.ta k.s.tn k.s.tc, iv k.s.role, .string k.ch, .string k.path, iv k.right]) _ (fun V hV => rangeAt_same (HA.out.range 0 6) ((show Below A.heap.size A V from hV).block _ (HA.out.lt))) Try.underlying27 rfl (size27)) hS0.out ?_
  simp only [Act.put, List.setIfInBounds_toArray, List.set_cons_zero, List.set_cons_succ]
  refine wpAnyH_ready (rs := [2, 3, 7]) (by kernel_rfl) (by simp) (AllReadyH.cons (i := 2) (o := { dst := some 21, op := Op.call { callee := Callee.value (Operand.func 15), args := #[Operand.tmp 19, Operand.tmp 20], argTypes := #[22, 27] }, type := 4, pos := "law.go:67", after := #[{ on := 0, ground := Ground.data }, { on := 1, ground := Ground.data }], guard := none }) rfl ?_ (AllReadyH.cons (i := 3) (o := { dst := some 22, op := Op.buildSlice 22 0 #[], type := 22, pos := "law.go:67", after := #[], guard := none }) rfl ?_ (AllReadyH.cons (i := 7) (o := { dst := some 26, op := Op.buildSlice 22 1 #[(0, Operand.tmp 25)], type := 22, pos := "law.go:67", after := #[{ on := 6, ground := Ground.data }], guard := none }) rfl ?_ AllReadyH.nil)))
  · intro K1 hK1
    rw [if_pos (by rfl)]
    have HC1 := dec_is l a n cp k V0 (HRU.out.below hS0.out) HN.out (HK.out.below hS0.out)
    go_wp2_with fail
    refine HC1.mono ?_
    rintro e V1 ⟨rfl, hb1⟩
    dsimp only
    clear HC1
    have hS1 : Hid (Below A.heap.size A V1) := hS0.out.trans (hb1.mono hS0.out.size)
    clear hb1
    refine hK1.out _ _ hS1.out ?_
    clear hK1
    intro _
    try simp only [Act.put, List.setIfInBounds_toArray, List.set_cons_zero, List.set_cons_succ]
    refine wpAnyH_ready (rs := [3, 7]) (by kernel_rfl) (by simp) (AllReadyH.cons (i := 3) (o := { dst := some 22, op := Op.buildSlice 22 0 #[], type := 22, pos := "law.go:67", after := #[], guard := none }) rfl ?_ (AllReadyH.cons (i := 7) (o := { dst := some 26, op := Op.buildSlice 22 1 #[(0, Operand.tmp 25)], type := 22, pos := "law.go:67", after := #[{ on := 6, ground := Ground.data }], guard := none }) rfl ?_ AllReadyH.nil))
    · intro K1 hK1
      rw [if_pos (by rfl)]
      obtain ⟨V2, hv2⟩ : ∃ V, V1.alloc (.cells #[] 31) = V := ⟨_, rfl⟩
      obtain ⟨q2, hq2⟩ : ∃ q, V1.heap.size = q := ⟨_, rfl⟩
      have hb2 : Hid (Below V1.heap.size V1 V2) := by rw [← hv2]; exact below_al _ _
      have hS2 : Hid (Below A.heap.size A V2) := hS1.out.trans (hb2.out.mono hS1.out.size)
      have HQ2 : Hid (A.heap.size ≤ q2 ∧ q2 ≤ V2.heap.size) := by rw [← hq2]; exact ⟨hS1.out.size, hb2.out.size⟩
      go_wp2
      clear hv2 hq2 hb2
      refine hK1.out _ _ hS2.out ?_
      clear hK1
      intro _
      try simp only [Act.put, List.setIfInBounds_toArray, List.set_cons_zero, List.set_cons_succ]
      refine wpAnyH_ready (rs := [5, 7]) (by kernel_rfl) (by simp) (AllReadyH.cons (i := 5) (o := { dst := some 24, op := Op.call { callee := Callee.builtin Builtin.append, args := #[Operand.tmp 22, Operand.tmp 23], argTypes := #[22, 22] }, type := 22, pos := "law.go:67", after := #[{ on := 3, ground := Ground.data }, { on := 4, ground := Ground.data }, { on := 2, ground := Ground.chain }], guard := none }) rfl ?_ (AllReadyH.cons (i := 7) (o := { dst := some 26, op := Op.buildSlice 22 1 #[(0, Operand.tmp 25)], type := 22, pos := "law.go:67", after := #[{ on := 6, ground := Ground.data }], guard := none }) rfl ?_ AllReadyH.nil))
      · intro K1 hK1
        obtain ⟨B3, hB3⟩ : ∃ B, V2.heap.size = B := ⟨_, rfl⟩
        refine step_append_bs (by rfl) 24 rfl (.tmp 22) (.tmp 23) 22 rfl V2 31 i0 _ 5 B3 Try.underlying22 HI0.out.1 HI0.out.2.1 HI0.out.2.2.1 HI0.out.2.2.2 rfl (by omega) (.slice (some ⟨q2, 0, none⟩) 0 0) 0 [] (.inl ⟨_, rfl, Rd.nil _ _ _ _, .inr ⟨q2, 0, rfl⟩⟩) a n cp (flat l) rfl rfl ((HL.out.below hS2.out (Nat.le_refl _))) (by rw [hB3]; exact Nat.le_refl _) (by have := HN.out; omega) ?_
        intro v3 V3 hb3 hw3
        have hw32 : Hid (Below V2.heap.size V2 V3) := by rw [hB3]; exact hw3.out
        have hS3 : Hid (Below A.heap.size A V3) := hS2.out.trans (hw32.out.mono hS2.out.size)
        have BS3 : Hid (Bs 31 5 B3 V3 v3 n (flat l)) := by have h := hb3.out; rw [Nat.zero_add, List.nil_append] at h; exact h
        have HBB3 : Hid (A.heap.size ≤ B3 ∧ B3 ≤ V3.heap.size) := by rw [← hB3]; exact ⟨hS2.out.size, hw32.out.size⟩
        clear hB3 hb3 hw3
        refine hK1.out _ _ hS3.out ?_
        clear hK1
        intro _
        try simp only [Act.put, List.setIfInBounds_toArray, List.set_cons_zero, List.set_cons_succ]
        refine wpAnyH_ready (rs := [7]) (by kernel_rfl) (by simp) (AllReadyH.cons (i := 7) (o := { dst := some 26, op := Op.buildSlice 22 1 #[(0, Operand.tmp 25)], type := 22, pos := "law.go:67", after := #[{ on := 6, ground := Ground.data }], guard := none }) rfl ?_ AllReadyH.nil)
        · intro K1 hK1
          rw [if_pos (by rfl)]
          obtain ⟨V4, hv4⟩ : ∃ V, V3.alloc (.cells #[.string r.who, .string r.ch, .string r.pre, iv r.right, .bool r.deny] 31) = V := ⟨_, rfl⟩
          obtain ⟨q4, hq4⟩ : ∃ q, V3.heap.size = q := ⟨_, rfl⟩
          have hb4 : Hid (Below V3.heap.size V3 V4) := by rw [← hv4]; exact below_al _ _
          have hS4 : Hid (Below A.heap.size A V4) := hS3.out.trans (hb4.out.mono hS3.out.size)
          have BS4 : Hid (Bs 31 5 B3 V4 v3 n (flat l)) := bs_below BS3.out hb4.out
          have RD4 : Hid (Rd V4 31 5 (some ⟨q4, 0, none⟩) 1 (flat [r])) := by rw [← hv4, ← hq4]; exact rd_one _ r
          have HBB4 : Hid (A.heap.size ≤ B3 ∧ B3 ≤ V4.heap.size) := ⟨HBB3.out.1, Nat.le_trans HBB3.out.2 hb4.out.size⟩
          go_wp2
          clear hv4 hq4 hb4
          refine hK1.out _ _ hS4.out ?_
          clear hK1
          intro _
          try simp only [Act.put, List.setIfInBounds_toArray, List.set_cons_zero, List.set_cons_succ]
          refine wpAnyH_ready (rs := [8]) (by kernel_rfl) (by simp) (AllReadyH.cons (i := 8) (o := { dst := some 27, op := Op.call { callee := Callee.builtin Builtin.append, args := #[Operand.tmp 24, Operand.tmp 26], argTypes := #[22, 22] }, type := 22, pos := "law.go:67", after := #[{ on := 5, ground := Ground.data }, { on := 7, ground := Ground.data }, { on := 5, ground := Ground.chain }], guard := none }) rfl ?_ AllReadyH.nil)
          · intro K1 hK1
            have hsz5 : B3 ≤ V4.heap.size := by have h1 := HBB4.out.2; have h2 := h1; omega
            refine step_append_bs (by rfl) 27 rfl (.tmp 24) (.tmp 26) 22 rfl V4 31 i0 _ 5 B3 Try.underlying22 HI0.out.1 HI0.out.2.1 HI0.out.2.2.1 HI0.out.2.2.2 rfl (by omega) v3 n (flat l) BS4.out (some ⟨q4, 0, none⟩) 1 1 (flat [r]) rfl rfl RD4.out hsz5 (by have := HN.out; omega) ?_
            intro v5 V5 hb5 hw5
            have hS5 : Hid (Below A.heap.size A V5) := hS4.out.trans (hw5.out.mono HBB4.out.1)
            obtain ⟨a5, c5, he5, RU5⟩ : ∃ a c, v5 = .slice a (n + 1) c ∧ Hid (RuS V5 a (n + 1) (l ++ [r])) := rus_of_bs (by have h := hb5.out; rw [← flat_app] at h; exact h) HSH.out
            subst he5
            clear hb5 hw5
            refine hK1.out _ _ hS5.out ?_
            clear hK1
            intro _
            try simp only [Act.put, List.setIfInBounds_toArray, List.set_cons_zero, List.set_cons_succ]
            refine wpAnyH_ready (rs := [10]) (by kernel_rfl) (by simp) (AllReadyH.cons (i := 10) (o := { dst := some 29, op := Op.call { callee := Callee.value (Operand.func 15), args := #[Operand.tmp 27, Operand.tmp 28], argTypes := #[22, 27] }, type := 4, pos := "law.go:67", after := #[{ on := 8, ground := Ground.data }, { on := 9, ground := Ground.data }, { on := 8, ground := Ground.chain }], guard := none }) rfl ?_ AllReadyH.nil)
            · intro K1 hK1
              rw [if_pos (by rfl)]
              have HC6 := dec_is (l ++ [r]) a5 (n + 1) c5 k V5 RU5.out (by have := HN1.out; omega) (HK.out.below hS5.out)
              go_wp2_with fail
              refine HC6.mono ?_
              rintro e V6 ⟨rfl, hb6⟩
              dsimp only
              clear HC6
              have hS6 : Hid (Below A.heap.size A V6) := hS5.out.trans (hb6.mono hS5.out.size)
              have RU6 : Hid (RuS V6 a5 (n + 1) (l ++ [r])) := RU5.out.below hb6
              clear hb6
              refine hK1.out _ _ hS6.out ?_
              clear hK1
              intro _
              try simp only [Act.put, List.setIfInBounds_toArray, List.set_cons_zero, List.set_cons_succ]
              refine wpAnyH_take (i := 11) (oi := { dst := some 7, op := Op.assign (Operand.tmp 21), type := 4, pos := "law.go:67", after := #[{ on := 2, ground := Ground.data }, { on := 10, ground := Ground.chain }, { on := 0, ground := Ground.phase }, { on := 1, ground := Ground.phase }, { on := 2, ground := Ground.phase }, { on := 3, ground := Ground.textOnly Departure.lateStores }, { on := 4, ground := Ground.textOnly Departure.lateStores }, { on := 5, ground := Ground.textOnly Departure.lateStoresUnsure }, { on := 6, ground := Ground.textOnly Departure.lateStores }, { on := 7, ground := Ground.textOnly Departure.lateStores }, { on := 8, ground := Ground.textOnly Departure.lateStoresUnsure }, { on := 9, ground := Ground.textOnly Departure.lateStores }, { on := 10, ground := Ground.textOnly Departure.lateStoresUnsure }], guard := none }) (v := .bool (dec l k)) rfl (by kernel_rfl) (by kernel_rfl) (by kernel_rfl) (fun _ _ _ h => h.elim) (Or.inl ⟨by rfl, ?y3⟩) hS6.out ?_
              case y3 =>
                intro V hV
                go_simp
              simp only [Act.put, List.setIfInBounds_toArray, List.set_cons_zero, List.set_cons_succ]
              refine wpAnyH_take (i := 12) (oi := { dst := some 8, op := Op.assign (Operand.tmp 29), type := 4, pos := "law.go:67", after := #[{ on := 10, ground := Ground.data }, { on := 11, ground := Ground.chain }, { on := 0, ground := Ground.phase }, { on := 1, ground := Ground.phase }, { on := 2, ground := Ground.phase }, { on := 3, ground := Ground.phase }, { on := 4, ground := Ground.phase }, { on := 5, ground := Ground.phase }, { on := 6, ground := Ground.phase }, { on := 7, ground := Ground.phase }, { on := 8, ground := Ground.phase }, { on := 9, ground := Ground.phase }, { on := 10, ground := Ground.phase }, { on := 11, ground := Ground.phase }], guard := none }) (v := .bool (dec (l ++ [r]) k)) rfl (by kernel_rfl) (by kernel_rfl) (by kernel_rfl) (fun _ _ _ h => h.elim) (Or.inl ⟨by rfl, ?y4⟩) hS6.out ?_
              case y4 =>
                intro V hV
                go_simp
              simp only [Act.put, List.setIfInBounds_toArray, List.set_cons_zero, List.set_cons_succ]
              refine wpAnyH_done (by kernel_rfl) ?_ _
              exact hQ _ _ _ _ _ _ hS6.out
      · intro K1 hK1
        rw [if_pos (by rfl)]
        obtain ⟨V3, hv3⟩ : ∃ V, V2.alloc (.cells #[.string r.who, .string r.ch, .string r.pre, iv r.right, .bool r.deny] 31) = V := ⟨_, rfl⟩
        obtain ⟨q3, hq3⟩ : ∃ q, V2.heap.size = q := ⟨_, rfl⟩
        have hb3 : Hid (Below V2.heap.size V2 V3) := by rw [← hv3]; exact below_al _ _
        have hS3 : Hid (Below A.heap.size A V3) := hS2.out.trans (hb3.out.mono hS2.out.size)
        have RD3 : Hid (Rd V3 31 5 (some ⟨q3, 0, none⟩) 1 (flat [r])) := by rw [← hv3, ← hq3]; exact rd_one _ r
        go_wp2
        clear hv3 hq3 hb3
        refine hK1.out _ _ hS3.out ?_
        clear hK1
        intro _
        try simp only [Act.put, List.setIfInBounds_toArray, List.set_cons_zero, List.set_cons_succ]
        refine wpAnyH_ready (rs := [5]) (by kernel_rfl) (by simp) (AllReadyH.cons (i := 5) (o := { dst := some 24, op := Op.call { callee := Callee.builtin Builtin.append, args := #[Operand.tmp 22, Operand.tmp 23], argTypes := #[22, 22] }, type := 22, pos := "law.go:67", after := #[{ on := 3, ground := Ground.data }, { on := 4, ground := Ground.data }, { on := 2, ground := Ground.chain }], guard := none }) rfl ?_ AllReadyH.nil)
        · intro K1 hK1
          obtain ⟨B4, hB4⟩ : ∃ B, V3.heap.size = B := ⟨_, rfl⟩
          refine step_append_bs (by rfl) 24 rfl (.tmp 22) (.tmp 23) 22 rfl V3 31 i0 _ 5 B4 Try.underlying22 HI0.out.1 HI0.out.2.1 HI0.out.2.2.1 HI0.out.2.2.2 rfl (by omega) (.slice (some ⟨q2, 0, none⟩) 0 0) 0 [] (.inl ⟨_, rfl, Rd.nil _ _ _ _, .inr ⟨q2, 0, rfl⟩⟩) a n cp (flat l) rfl rfl ((HL.out.below hS3.out (Nat.le_refl _))) (by rw [hB4]; exact Nat.le_refl _) (by have := HN.out; omega) ?_
          intro v4 V4 hb4 hw4
          have hw42 : Hid (Below V3.heap.size V3 V4) := by rw [hB4]; exact hw4.out
          have hS4 : Hid (Below A.heap.size A V4) := hS3.out.trans (hw42.out.mono hS3.out.size)
          have RD4 : Hid (Rd V4 31 5 (some ⟨q3, 0, none⟩) 1 (flat [r])) := RD3.out.below hw42.out (Nat.le_refl _)
          have BS4 : Hid (Bs 31 5 B4 V4 v4 n (flat l)) := by have h := hb4.out; rw [Nat.zero_add, List.nil_append] at h; exact h
          have HBB4 : Hid (A.heap.size ≤ B4 ∧ B4 ≤ V4.heap.size) := by rw [← hB4]; exact ⟨hS3.out.size, hw42.out.size⟩
          clear hB4 hb4 hw4
          refine hK1.out _ _ hS4.out ?_
          clear hK1
          intro _
          try simp only [Act.put, List.setIfInBounds_toArray, List.set_cons_zero, List.set_cons_succ]
          refine wpAnyH_ready (rs := [8]) (by kernel_rfl) (by simp) (AllReadyH.cons (i := 8) (o := { dst := some 27, op := Op.call { callee := Callee.builtin Builtin.append, args := #[Operand.tmp 24, Operand.tmp 26], argTypes := #[22, 22] }, type := 22, pos := "law.go:67", after := #[{ on := 5, ground := Ground.data }, { on := 7, ground := Ground.data }, { on := 5, ground := Ground.chain }], guard := none }) rfl ?_ AllReadyH.nil)
          · intro K1 hK1
            have hsz5 : B4 ≤ V4.heap.size := by have h1 := HBB4.out.2; have h2 := h1; omega
            refine step_append_bs (by rfl) 27 rfl (.tmp 24) (.tmp 26) 22 rfl V4 31 i0 _ 5 B4 Try.underlying22 HI0.out.1 HI0.out.2.1 HI0.out.2.2.1 HI0.out.2.2.2 rfl (by omega) v4 n (flat l) BS4.out (some ⟨q3, 0, none⟩) 1 1 (flat [r]) rfl rfl RD4.out hsz5 (by have := HN.out; omega) ?_
            intro v5 V5 hb5 hw5
            have hS5 : Hid (Below A.heap.size A V5) := hS4.out.trans (hw5.out.mono HBB4.out.1)
            obtain ⟨a5, c5, he5, RU5⟩ : ∃ a c, v5 = .slice a (n + 1) c ∧ Hid (RuS V5 a (n + 1) (l ++ [r])) := rus_of_bs (by have h := hb5.out; rw [← flat_app] at h; exact h) HSH.out
            subst he5
            clear hb5 hw5
            refine hK1.out _ _ hS5.out ?_
            clear hK1
            intro _
            try simp only [Act.put, List.setIfInBounds_toArray, List.set_cons_zero, List.set_cons_succ]
            refine wpAnyH_ready (rs := [10]) (by kernel_rfl) (by simp) (AllReadyH.cons (i := 10) (o := { dst := some 29, op := Op.call { callee := Callee.value (Operand.func 15), args := #[Operand.tmp 27, Operand.tmp 28], argTypes := #[22, 27] }, type := 4, pos := "law.go:67", after := #[{ on := 8, ground := Ground.data }, { on := 9, ground := Ground.data }, { on := 8, ground := Ground.chain }], guard := none }) rfl ?_ AllReadyH.nil)
            · intro K1 hK1
              rw [if_pos (by rfl)]
              have HC6 := dec_is (l ++ [r]) a5 (n + 1) c5 k V5 RU5.out (by have := HN1.out; omega) (HK.out.below hS5.out)
              go_wp2_with fail
              refine HC6.mono ?_
              rintro e V6 ⟨rfl, hb6⟩
              dsimp only
              clear HC6
              have hS6 : Hid (Below A.heap.size A V6) := hS5.out.trans (hb6.mono hS5.out.size)
              have RU6 : Hid (RuS V6 a5 (n + 1) (l ++ [r])) := RU5.out.below hb6
              clear hb6
              refine hK1.out _ _ hS6.out ?_
              clear hK1
              intro _
              try simp only [Act.put, List.setIfInBounds_toArray, List.set_cons_zero, List.set_cons_succ]
              refine wpAnyH_take (i := 11) (oi := { dst := some 7, op := Op.assign (Operand.tmp 21), type := 4, pos := "law.go:67", after := #[{ on := 2, ground := Ground.data }, { on := 10, ground := Ground.chain }, { on := 0, ground := Ground.phase }, { on := 1, ground := Ground.phase }, { on := 2, ground := Ground.phase }, { on := 3, ground := Ground.textOnly Departure.lateStores }, { on := 4, ground := Ground.textOnly Departure.lateStores }, { on := 5, ground := Ground.textOnly Departure.lateStoresUnsure }, { on := 6, ground := Ground.textOnly Departure.lateStores }, { on := 7, ground := Ground.textOnly Departure.lateStores }, { on := 8, ground := Ground.textOnly Departure.lateStoresUnsure }, { on := 9, ground := Ground.textOnly Departure.lateStores }, { on := 10, ground := Ground.textOnly Departure.lateStoresUnsure }], guard := none }) (v := .bool (dec l k)) rfl (by kernel_rfl) (by kernel_rfl) (by kernel_rfl) (fun _ _ _ h => h.elim) (Or.inl ⟨by rfl, ?y5⟩) hS6.out ?_
              case y5 =>
                intro V hV
                go_simp
              simp only [Act.put, List.setIfInBounds_toArray, List.set_cons_zero, List.set_cons_succ]
              refine wpAnyH_take (i := 12) (oi := { dst := some 8, op := Op.assign (Operand.tmp 29), type := 4, pos := "law.go:67", after := #[{ on := 10, ground := Ground.data }, { on := 11, ground := Ground.chain }, { on := 0, ground := Ground.phase }, { on := 1, ground := Ground.phase }, { on := 2, ground := Ground.phase }, { on := 3, ground := Ground.phase }, { on := 4, ground := Ground.phase }, { on := 5, ground := Ground.phase }, { on := 6, ground := Ground.phase }, { on := 7, ground := Ground.phase }, { on := 8, ground := Ground.phase }, { on := 9, ground := Ground.phase }, { on := 10, ground := Ground.phase }, { on := 11, ground := Ground.phase }], guard := none }) (v := .bool (dec (l ++ [r]) k)) rfl (by kernel_rfl) (by kernel_rfl) (by kernel_rfl) (fun _ _ _ h => h.elim) (Or.inl ⟨by rfl, ?y6⟩) hS6.out ?_
              case y6 =>
                intro V hV
                go_simp
              simp only [Act.put, List.setIfInBounds_toArray, List.set_cons_zero, List.set_cons_succ]
              refine wpAnyH_done (by kernel_rfl) ?_ _
              exact hQ _ _ _ _ _ _ hS6.out
    · intro K1 hK1
      rw [if_pos (by rfl)]
      obtain ⟨V2, hv2⟩ : ∃ V, V1.alloc (.cells #[.string r.who, .string r.ch, .string r.pre, iv r.right, .bool r.deny] 31) = V := ⟨_, rfl⟩
      obtain ⟨q2, hq2⟩ : ∃ q, V1.heap.size = q := ⟨_, rfl⟩
      have hb2 : Hid (Below V1.heap.size V1 V2) := by rw [← hv2]; exact below_al _ _
      have hS2 : Hid (Below A.heap.size A V2) := hS1.out.trans (hb2.out.mono hS1.out.size)
      have RD2 : Hid (Rd V2 31 5 (some ⟨q2, 0, none⟩) 1 (flat [r])) := by rw [← hv2, ← hq2]; exact rd_one _ r
      go_wp2
      clear hv2 hq2 hb2
      refine hK1.out _ _ hS2.out ?_
      clear hK1
      intro _
      try simp only [Act.put, List.setIfInBounds_toArray, List.set_cons_zero, List.set_cons_succ]
      refine wpAnyH_ready (rs := [3]) (by kernel_rfl) (by simp) (AllReadyH.cons (i := 3) (o := { dst := some 22, op := Op.buildSlice 22 0 #[], type := 22, pos := "law.go:67", after := #[], guard := none }) rfl ?_ AllReadyH.nil)
      · intro K1 hK1
        rw [if_pos (by rfl)]
        obtain ⟨V3, hv3⟩ : ∃ V, V2.alloc (.cells #[] 31) = V := ⟨_, rfl⟩
        obtain ⟨q3, hq3⟩ : ∃ q, V2.heap.size = q := ⟨_, rfl⟩
        have hb3 : Hid (Below V2.heap.size V2 V3) := by rw [← hv3]; exact below_al _ _
        have hS3 : Hid (Below A.heap.size A V3) := hS2.out.trans (hb3.out.mono hS2.out.size)
        have RD3 : Hid (Rd V3 31 5 (some ⟨q2, 0, none⟩) 1 (flat [r])) := RD2.out.below hb3.out (Nat.le_refl _)
        have HQ3 : Hid (A.heap.size ≤ q3 ∧ q3 ≤ V3.heap.size) := by rw [← hq3]; exact ⟨hS2.out.size, hb3.out.size⟩
        go_wp2
        clear hv3 hq3 hb3
        refine hK1.out _ _ hS3.out ?_
        clear hK1
        intro _
        try simp only [Act.put, List.setIfInBounds_toArray, List.set_cons_zero, List.set_cons_succ]
        refine wpAnyH_ready (rs := [5]) (by kernel_rfl) (by simp) (AllReadyH.cons (i := 5) (o := { dst := some 24, op := Op.call { callee := Callee.builtin Builtin.append, args := #[Operand.tmp 22, Operand.tmp 23], argTypes := #[22, 22] }, type := 22, pos := "law.go:67", after := #[{ on := 3, ground := Ground.data }, { on := 4, ground := Ground.data }, { on := 2, ground := Ground.chain }], guard := none }) rfl ?_ AllReadyH.nil)
        · intro K1 hK1
          obtain ⟨B4, hB4⟩ : ∃ B, V3.heap.size = B := ⟨_, rfl⟩
          refine step_append_bs (by rfl) 24 rfl (.tmp 22) (.tmp 23) 22 rfl V3 31 i0 _ 5 B4 Try.underlying22 HI0.out.1 HI0.out.2.1 HI0.out.2.2.1 HI0.out.2.2.2 rfl (by omega) (.slice (some ⟨q3, 0, none⟩) 0 0) 0 [] (.inl ⟨_, rfl, Rd.nil _ _ _ _, .inr ⟨q3, 0, rfl⟩⟩) a n cp (flat l) rfl rfl ((HL.out.below hS3.out (Nat.le_refl _))) (by rw [hB4]; exact Nat.le_refl _) (by have := HN.out; omega) ?_
          intro v4 V4 hb4 hw4
          have hw42 : Hid (Below V3.heap.size V3 V4) := by rw [hB4]; exact hw4.out
          have hS4 : Hid (Below A.heap.size A V4) := hS3.out.trans (hw42.out.mono hS3.out.size)
          have RD4 : Hid (Rd V4 31 5 (some ⟨q2, 0, none⟩) 1 (flat [r])) := RD3.out.below hw42.out (Nat.le_refl _)
          have BS4 : Hid (Bs 31 5 B4 V4 v4 n (flat l)) := by have h := hb4.out; rw [Nat.zero_add, List.nil_append] at h; exact h
          have HBB4 : Hid (A.heap.size ≤ B4 ∧ B4 ≤ V4.heap.size) := by rw [← hB4]; exact ⟨hS3.out.size, hw42.out.size⟩
          clear hB4 hb4 hw4
          refine hK1.out _ _ hS4.out ?_
          clear hK1
          intro _
          try simp only [Act.put, List.setIfInBounds_toArray, List.set_cons_zero, List.set_cons_succ]
          refine wpAnyH_ready (rs := [8]) (by kernel_rfl) (by simp) (AllReadyH.cons (i := 8) (o := { dst := some 27, op := Op.call { callee := Callee.builtin Builtin.append, args := #[Operand.tmp 24, Operand.tmp 26], argTypes := #[22, 22] }, type := 22, pos := "law.go:67", after := #[{ on := 5, ground := Ground.data }, { on := 7, ground := Ground.data }, { on := 5, ground := Ground.chain }], guard := none }) rfl ?_ AllReadyH.nil)
          · intro K1 hK1
            have hsz5 : B4 ≤ V4.heap.size := by have h1 := HBB4.out.2; have h2 := h1; omega
            refine step_append_bs (by rfl) 27 rfl (.tmp 24) (.tmp 26) 22 rfl V4 31 i0 _ 5 B4 Try.underlying22 HI0.out.1 HI0.out.2.1 HI0.out.2.2.1 HI0.out.2.2.2 rfl (by omega) v4 n (flat l) BS4.out (some ⟨q2, 0, none⟩) 1 1 (flat [r]) rfl rfl RD4.out hsz5 (by have := HN.out; omega) ?_
            intro v5 V5 hb5 hw5
            have hS5 : Hid (Below A.heap.size A V5) := hS4.out.trans (hw5.out.mono HBB4.out.1)
            obtain ⟨a5, c5, he5, RU5⟩ : ∃ a c, v5 = .slice a (n + 1) c ∧ Hid (RuS V5 a (n + 1) (l ++ [r])) := rus_of_bs (by have h := hb5.out; rw [← flat_app] at h; exact h) HSH.out
            subst he5
            clear hb5 hw5
            refine hK1.out _ _ hS5.out ?_
            clear hK1
            intro _
            try simp only [Act.put, List.setIfInBounds_toArray, List.set_cons_zero, List.set_cons_succ]
            refine wpAnyH_ready (rs := [10]) (by kernel_rfl) (by simp) (AllReadyH.cons (i := 10) (o := { dst := some 29, op := Op.call { callee := Callee.value (Operand.func 15), args := #[Operand.tmp 27, Operand.tmp 28], argTypes := #[22, 27] }, type := 4, pos := "law.go:67", after := #[{ on := 8, ground := Ground.data }, { on := 9, ground := Ground.data }, { on := 8, ground := Ground.chain }], guard := none }) rfl ?_ AllReadyH.nil)
            · intro K1 hK1
              rw [if_pos (by rfl)]
              have HC6 := dec_is (l ++ [r]) a5 (n + 1) c5 k V5 RU5.out (by have := HN1.out; omega) (HK.out.below hS5.out)
              go_wp2_with fail
              refine HC6.mono ?_
              rintro e V6 ⟨rfl, hb6⟩
              dsimp only
              clear HC6
              have hS6 : Hid (Below A.heap.size A V6) := hS5.out.trans (hb6.mono hS5.out.size)
              have RU6 : Hid (RuS V6 a5 (n + 1) (l ++ [r])) := RU5.out.below hb6
              clear hb6
              refine hK1.out _ _ hS6.out ?_
              clear hK1
              intro _
              try simp only [Act.put, List.setIfInBounds_toArray, List.set_cons_zero, List.set_cons_succ]
              refine wpAnyH_take (i := 11) (oi := { dst := some 7, op := Op.assign (Operand.tmp 21), type := 4, pos := "law.go:67", after := #[{ on := 2, ground := Ground.data }, { on := 10, ground := Ground.chain }, { on := 0, ground := Ground.phase }, { on := 1, ground := Ground.phase }, { on := 2, ground := Ground.phase }, { on := 3, ground := Ground.textOnly Departure.lateStores }, { on := 4, ground := Ground.textOnly Departure.lateStores }, { on := 5, ground := Ground.textOnly Departure.lateStoresUnsure }, { on := 6, ground := Ground.textOnly Departure.lateStores }, { on := 7, ground := Ground.textOnly Departure.lateStores }, { on := 8, ground := Ground.textOnly Departure.lateStoresUnsure }, { on := 9, ground := Ground.textOnly Departure.lateStores }, { on := 10, ground := Ground.textOnly Departure.lateStoresUnsure }], guard := none }) (v := .bool (dec l k)) rfl (by kernel_rfl) (by kernel_rfl) (by kernel_rfl) (fun _ _ _ h => h.elim) (Or.inl ⟨by rfl, ?y7⟩) hS6.out ?_
              case y7 =>
                intro V hV
                go_simp
              simp only [Act.put, List.setIfInBounds_toArray, List.set_cons_zero, List.set_cons_succ]
              refine wpAnyH_take (i := 12) (oi := { dst := some 8, op := Op.assign (Operand.tmp 29), type := 4, pos := "law.go:67", after := #[{ on := 10, ground := Ground.data }, { on := 11, ground := Ground.chain }, { on := 0, ground := Ground.phase }, { on := 1, ground := Ground.phase }, { on := 2, ground := Ground.phase }, { on := 3, ground := Ground.phase }, { on := 4, ground := Ground.phase }, { on := 5, ground := Ground.phase }, { on := 6, ground := Ground.phase }, { on := 7, ground := Ground.phase }, { on := 8, ground := Ground.phase }, { on := 9, ground := Ground.phase }, { on := 10, ground := Ground.phase }, { on := 11, ground := Ground.phase }], guard := none }) (v := .bool (dec (l ++ [r]) k)) rfl (by kernel_rfl) (by kernel_rfl) (by kernel_rfl) (fun _ _ _ h => h.elim) (Or.inl ⟨by rfl, ?y8⟩) hS6.out ?_
              case y8 =>
                intro V hV
                go_simp
              simp only [Act.put, List.setIfInBounds_toArray, List.set_cons_zero, List.set_cons_succ]
              refine wpAnyH_done (by kernel_rfl) ?_ _
              exact hQ _ _ _ _ _ _ hS6.out
  · intro K1 hK1
    rw [if_pos (by rfl)]
    obtain ⟨V1, hv1⟩ : ∃ V, V0.alloc (.cells #[] 31) = V := ⟨_, rfl⟩
    obtain ⟨q1, hq1⟩ : ∃ q, V0.heap.size = q := ⟨_, rfl⟩
    have hb1 : Hid (Below V0.heap.size V0 V1) := by rw [← hv1]; exact below_al _ _
    have hS1 : Hid (Below A.heap.size A V1) := hS0.out.trans (hb1.out.mono hS0.out.size)
    have HQ1 : Hid (A.heap.size ≤ q1 ∧ q1 ≤ V1.heap.size) := by rw [← hq1]; exact ⟨hS0.out.size, hb1.out.size⟩
    go_wp2
    clear hv1 hq1 hb1
    refine hK1.out _ _ hS1.out ?_
    clear hK1
    intro _
    try simp only [Act.put, List.setIfInBounds_toArray, List.set_cons_zero, List.set_cons_succ]
    refine wpAnyH_ready (rs := [2, 7]) (by kernel_rfl) (by simp) (AllReadyH.cons (i := 2) (o := { dst := some 21, op := Op.call { callee := Callee.value (Operand.func 15), args := #[Operand.tmp 19, Operand.tmp 20], argTypes := #[22, 27] }, type := 4, pos := "law.go:67", after := #[{ on := 0, ground := Ground.data }, { on := 1, ground := Ground.data }], guard := none }) rfl ?_ (AllReadyH.cons (i := 7) (o := { dst := some 26, op := Op.buildSlice 22 1 #[(0, Operand.tmp 25)], type := 22, pos := "law.go:67", after := #[{ on := 6, ground := Ground.data }], guard := none }) rfl ?_ AllReadyH.nil))
    · intro K1 hK1
      rw [if_pos (by rfl)]
      have HC2 := dec_is l a n cp k V1 (HRU.out.below hS1.out) HN.out (HK.out.below hS1.out)
      go_wp2_with fail
      refine HC2.mono ?_
      rintro e V2 ⟨rfl, hb2⟩
      dsimp only
      clear HC2
      have hS2 : Hid (Below A.heap.size A V2) := hS1.out.trans (hb2.mono hS1.out.size)
      clear hb2
      refine hK1.out _ _ hS2.out ?_
      clear hK1
      intro _
      try simp only [Act.put, List.setIfInBounds_toArray, List.set_cons_zero, List.set_cons_succ]
      refine wpAnyH_ready (rs := [5, 7]) (by kernel_rfl) (by simp) (AllReadyH.cons (i := 5) (o := { dst := some 24, op := Op.call { callee := Callee.builtin Builtin.append, args := #[Operand.tmp 22, Operand.tmp 23], argTypes := #[22, 22] }, type := 22, pos := "law.go:67", after := #[{ on := 3, ground := Ground.data }, { on := 4, ground := Ground.data }, { on := 2, ground := Ground.chain }], guard := none }) rfl ?_ (AllReadyH.cons (i := 7) (o := { dst := some 26, op := Op.buildSlice 22 1 #[(0, Operand.tmp 25)], type := 22, pos := "law.go:67", after := #[{ on := 6, ground := Ground.data }], guard := none }) rfl ?_ AllReadyH.nil))
      · intro K1 hK1
        obtain ⟨B3, hB3⟩ : ∃ B, V2.heap.size = B := ⟨_, rfl⟩
        refine step_append_bs (by rfl) 24 rfl (.tmp 22) (.tmp 23) 22 rfl V2 31 i0 _ 5 B3 Try.underlying22 HI0.out.1 HI0.out.2.1 HI0.out.2.2.1 HI0.out.2.2.2 rfl (by omega) (.slice (some ⟨q1, 0, none⟩) 0 0) 0 [] (.inl ⟨_, rfl, Rd.nil _ _ _ _, .inr ⟨q1, 0, rfl⟩⟩) a n cp (flat l) rfl rfl ((HL.out.below hS2.out (Nat.le_refl _))) (by rw [hB3]; exact Nat.le_refl _) (by have := HN.out; omega) ?_
        intro v3 V3 hb3 hw3
        have hw32 : Hid (Below V2.heap.size V2 V3) := by rw [hB3]; exact hw3.out
        have hS3 : Hid (Below A.heap.size A V3) := hS2.out.trans (hw32.out.mono hS2.out.size)
        have BS3 : Hid (Bs 31 5 B3 V3 v3 n (flat l)) := by have h := hb3.out; rw [Nat.zero_add, List.nil_append] at h; exact h
        have HBB3 : Hid (A.heap.size ≤ B3 ∧ B3 ≤ V3.heap.size) := by rw [← hB3]; exact ⟨hS2.out.size, hw32.out.size⟩
        clear hB3 hb3 hw3
        refine hK1.out _ _ hS3.out ?_
        clear hK1
        intro _
        try simp only [Act.put, List.setIfInBounds_toArray, List.set_cons_zero, List.set_cons_succ]
        refine wpAnyH_ready (rs := [7]) (by kernel_rfl) (by simp) (AllReadyH.cons (i := 7) (o := { dst := some 26, op := Op.buildSlice 22 1 #[(0, Operand.tmp 25)], type := 22, pos := "law.go:67", after := #[{ on := 6, ground := Ground.data }], guard := none }) rfl ?_ AllReadyH.nil)
        · intro K1 hK1
          rw [if_pos (by rfl)]
          obtain ⟨V4, hv4⟩ : ∃ V, V3.alloc (.cells #[.string r.who, .string r.ch, .string r.pre, iv r.right, .bool r.deny] 31) = V := ⟨_, rfl⟩
          obtain ⟨q4, hq4⟩ : ∃ q, V3.heap.size = q := ⟨_, rfl⟩
          have hb4 : Hid (Below V3.heap.size V3 V4) := by rw [← hv4]; exact below_al _ _
          have hS4 : Hid (Below A.heap.size A V4) := hS3.out.trans (hb4.out.mono hS3.out.size)
          have BS4 : Hid (Bs 31 5 B3 V4 v3 n (flat l)) := bs_below BS3.out hb4.out
          have RD4 : Hid (Rd V4 31 5 (some ⟨q4, 0, none⟩) 1 (flat [r])) := by rw [← hv4, ← hq4]; exact rd_one _ r
          have HBB4 : Hid (A.heap.size ≤ B3 ∧ B3 ≤ V4.heap.size) := ⟨HBB3.out.1, Nat.le_trans HBB3.out.2 hb4.out.size⟩
          go_wp2
          clear hv4 hq4 hb4
          refine hK1.out _ _ hS4.out ?_
          clear hK1
          intro _
          try simp only [Act.put, List.setIfInBounds_toArray, List.set_cons_zero, List.set_cons_succ]
          refine wpAnyH_ready (rs := [8]) (by kernel_rfl) (by simp) (AllReadyH.cons (i := 8) (o := { dst := some 27, op := Op.call { callee := Callee.builtin Builtin.append, args := #[Operand.tmp 24, Operand.tmp 26], argTypes := #[22, 22] }, type := 22, pos := "law.go:67", after := #[{ on := 5, ground := Ground.data }, { on := 7, ground := Ground.data }, { on := 5, ground := Ground.chain }], guard := none }) rfl ?_ AllReadyH.nil)
          · intro K1 hK1
            have hsz5 : B3 ≤ V4.heap.size := by have h1 := HBB4.out.2; have h2 := h1; omega
            refine step_append_bs (by rfl) 27 rfl (.tmp 24) (.tmp 26) 22 rfl V4 31 i0 _ 5 B3 Try.underlying22 HI0.out.1 HI0.out.2.1 HI0.out.2.2.1 HI0.out.2.2.2 rfl (by omega) v3 n (flat l) BS4.out (some ⟨q4, 0, none⟩) 1 1 (flat [r]) rfl rfl RD4.out hsz5 (by have := HN.out; omega) ?_
            intro v5 V5 hb5 hw5
            have hS5 : Hid (Below A.heap.size A V5) := hS4.out.trans (hw5.out.mono HBB4.out.1)
            obtain ⟨a5, c5, he5, RU5⟩ : ∃ a c, v5 = .slice a (n + 1) c ∧ Hid (RuS V5 a (n + 1) (l ++ [r])) := rus_of_bs (by have h := hb5.out; rw [← flat_app] at h; exact h) HSH.out
            subst he5
            clear hb5 hw5
            refine hK1.out _ _ hS5.out ?_
            clear hK1
            intro _
            try simp only [Act.put, List.setIfInBounds_toArray, List.set_cons_zero, List.set_cons_succ]
            refine wpAnyH_ready (rs := [10]) (by kernel_rfl) (by simp) (AllReadyH.cons (i := 10) (o := { dst := some 29, op := Op.call { callee := Callee.value (Operand.func 15), args := #[Operand.tmp 27, Operand.tmp 28], argTypes := #[22, 27] }, type := 4, pos := "law.go:67", after := #[{ on := 8, ground := Ground.data }, { on := 9, ground := Ground.data }, { on := 8, ground := Ground.chain }], guard := none }) rfl ?_ AllReadyH.nil)
            · intro K1 hK1
              rw [if_pos (by rfl)]
              have HC6 := dec_is (l ++ [r]) a5 (n + 1) c5 k V5 RU5.out (by have := HN1.out; omega) (HK.out.below hS5.out)
              go_wp2_with fail
              refine HC6.mono ?_
              rintro e V6 ⟨rfl, hb6⟩
              dsimp only
              clear HC6
              have hS6 : Hid (Below A.heap.size A V6) := hS5.out.trans (hb6.mono hS5.out.size)
              have RU6 : Hid (RuS V6 a5 (n + 1) (l ++ [r])) := RU5.out.below hb6
              clear hb6
              refine hK1.out _ _ hS6.out ?_
              clear hK1
              intro _
              try simp only [Act.put, List.setIfInBounds_toArray, List.set_cons_zero, List.set_cons_succ]
              refine wpAnyH_take (i := 11) (oi := { dst := some 7, op := Op.assign (Operand.tmp 21), type := 4, pos := "law.go:67", after := #[{ on := 2, ground := Ground.data }, { on := 10, ground := Ground.chain }, { on := 0, ground := Ground.phase }, { on := 1, ground := Ground.phase }, { on := 2, ground := Ground.phase }, { on := 3, ground := Ground.textOnly Departure.lateStores }, { on := 4, ground := Ground.textOnly Departure.lateStores }, { on := 5, ground := Ground.textOnly Departure.lateStoresUnsure }, { on := 6, ground := Ground.textOnly Departure.lateStores }, { on := 7, ground := Ground.textOnly Departure.lateStores }, { on := 8, ground := Ground.textOnly Departure.lateStoresUnsure }, { on := 9, ground := Ground.textOnly Departure.lateStores }, { on := 10, ground := Ground.textOnly Departure.lateStoresUnsure }], guard := none }) (v := .bool (dec l k)) rfl (by kernel_rfl) (by kernel_rfl) (by kernel_rfl) (fun _ _ _ h => h.elim) (Or.inl ⟨by rfl, ?y9⟩) hS6.out ?_
              case y9 =>
                intro V hV
                go_simp
              simp only [Act.put, List.setIfInBounds_toArray, List.set_cons_zero, List.set_cons_succ]
              refine wpAnyH_take (i := 12) (oi := { dst := some 8, op := Op.assign (Operand.tmp 29), type := 4, pos := "law.go:67", after := #[{ on := 10, ground := Ground.data }, { on := 11, ground := Ground.chain }, { on := 0, ground := Ground.phase }, { on := 1, ground := Ground.phase }, { on := 2, ground := Ground.phase }, { on := 3, ground := Ground.phase }, { on := 4, ground := Ground.phase }, { on := 5, ground := Ground.phase }, { on := 6, ground := Ground.phase }, { on := 7, ground := Ground.phase }, { on := 8, ground := Ground.phase }, { on := 9, ground := Ground.phase }, { on := 10, ground := Ground.phase }, { on := 11, ground := Ground.phase }], guard := none }) (v := .bool (dec (l ++ [r]) k)) rfl (by kernel_rfl) (by kernel_rfl) (by kernel_rfl) (fun _ _ _ h => h.elim) (Or.inl ⟨by rfl, ?y10⟩) hS6.out ?_
              case y10 =>
                intro V hV
                go_simp
              simp only [Act.put, List.setIfInBounds_toArray, List.set_cons_zero, List.set_cons_succ]
              refine wpAnyH_done (by kernel_rfl) ?_ _
              exact hQ _ _ _ _ _ _ hS6.out
      · intro K1 hK1
        rw [if_pos (by rfl)]
        obtain ⟨V3, hv3⟩ : ∃ V, V2.alloc (.cells #[.string r.who, .string r.ch, .string r.pre, iv r.right, .bool r.deny] 31) = V := ⟨_, rfl⟩
        obtain ⟨q3, hq3⟩ : ∃ q, V2.heap.size = q := ⟨_, rfl⟩
        have hb3 : Hid (Below V2.heap.size V2 V3) := by rw [← hv3]; exact below_al _ _
        have hS3 : Hid (Below A.heap.size A V3) := hS2.out.trans (hb3.out.mono hS2.out.size)
        have RD3 : Hid (Rd V3 31 5 (some ⟨q3, 0, none⟩) 1 (flat [r])) := by rw [← hv3, ← hq3]; exact rd_one _ r
        go_wp2
        clear hv3 hq3 hb3
        refine hK1.out _ _ hS3.out ?_
        clear hK1
        intro _
        try simp only [Act.put, List.setIfInBounds_toArray, List.set_cons_zero, List.set_cons_succ]
        refine wpAnyH_ready (rs := [5]) (by kernel_rfl) (by simp) (AllReadyH.cons (i := 5) (o := { dst := some 24, op := Op.call { callee := Callee.builtin Builtin.append, args := #[Operand.tmp 22, Operand.tmp 23], argTypes := #[22, 22] }, type := 22, pos := "law.go:67", after := #[{ on := 3, ground := Ground.data }, { on := 4, ground := Ground.data }, { on := 2, ground := Ground.chain }], guard := none }) rfl ?_ AllReadyH.nil)
        · intro K1 hK1
          obtain ⟨B4, hB4⟩ : ∃ B, V3.heap.size = B := ⟨_, rfl⟩
          refine step_append_bs (by rfl) 24 rfl (.tmp 22) (.tmp 23) 22 rfl V3 31 i0 _ 5 B4 Try.underlying22 HI0.out.1 HI0.out.2.1 HI0.out.2.2.1 HI0.out.2.2.2 rfl (by omega) (.slice (some ⟨q1, 0, none⟩) 0 0) 0 [] (.inl ⟨_, rfl, Rd.nil _ _ _ _, .inr ⟨q1, 0, rfl⟩⟩) a n cp (flat l) rfl rfl ((HL.out.below hS3.out (Nat.le_refl _))) (by rw [hB4]; exact Nat.le_refl _) (by have := HN.out; omega) ?_
          intro v4 V4 hb4 hw4
          have hw42 : Hid (Below V3.heap.size V3 V4) := by rw [hB4]; exact hw4.out
          have hS4 : Hid (Below A.heap.size A V4) := hS3.out.trans (hw42.out.mono hS3.out.size)
          have RD4 : Hid (Rd V4 31 5 (some ⟨q3, 0, none⟩) 1 (flat [r])) := RD3.out.below hw42.out (Nat.le_refl _)
          have BS4 : Hid (Bs 31 5 B4 V4 v4 n (flat l)) := by have h := hb4.out; rw [Nat.zero_add, List.nil_append] at h; exact h
          have HBB4 : Hid (A.heap.size ≤ B4 ∧ B4 ≤ V4.heap.size) := by rw [← hB4]; exact ⟨hS3.out.size, hw42.out.size⟩
          clear hB4 hb4 hw4
          refine hK1.out _ _ hS4.out ?_
          clear hK1
          intro _
          try simp only [Act.put, List.setIfInBounds_toArray, List.set_cons_zero, List.set_cons_succ]
          refine wpAnyH_ready (rs := [8]) (by kernel_rfl) (by simp) (AllReadyH.cons (i := 8) (o := { dst := some 27, op := Op.call { callee := Callee.builtin Builtin.append, args := #[Operand.tmp 24, Operand.tmp 26], argTypes := #[22, 22] }, type := 22, pos := "law.go:67", after := #[{ on := 5, ground := Ground.data }, { on := 7, ground := Ground.data }, { on := 5, ground := Ground.chain }], guard := none }) rfl ?_ AllReadyH.nil)
          · intro K1 hK1
            have hsz5 : B4 ≤ V4.heap.size := by have h1 := HBB4.out.2; have h2 := h1; omega
            refine step_append_bs (by rfl) 27 rfl (.tmp 24) (.tmp 26) 22 rfl V4 31 i0 _ 5 B4 Try.underlying22 HI0.out.1 HI0.out.2.1 HI0.out.2.2.1 HI0.out.2.2.2 rfl (by omega) v4 n (flat l) BS4.out (some ⟨q3, 0, none⟩) 1 1 (flat [r]) rfl rfl RD4.out hsz5 (by have := HN.out; omega) ?_
            intro v5 V5 hb5 hw5
            have hS5 : Hid (Below A.heap.size A V5) := hS4.out.trans (hw5.out.mono HBB4.out.1)
            obtain ⟨a5, c5, he5, RU5⟩ : ∃ a c, v5 = .slice a (n + 1) c ∧ Hid (RuS V5 a (n + 1) (l ++ [r])) := rus_of_bs (by have h := hb5.out; rw [← flat_app] at h; exact h) HSH.out
            subst he5
            clear hb5 hw5
            refine hK1.out _ _ hS5.out ?_
            clear hK1
            intro _
            try simp only [Act.put, List.setIfInBounds_toArray, List.set_cons_zero, List.set_cons_succ]
            refine wpAnyH_ready (rs := [10]) (by kernel_rfl) (by simp) (AllReadyH.cons (i := 10) (o := { dst := some 29, op := Op.call { callee := Callee.value (Operand.func 15), args := #[Operand.tmp 27, Operand.tmp 28], argTypes := #[22, 27] }, type := 4, pos := "law.go:67", after := #[{ on := 8, ground := Ground.data }, { on := 9, ground := Ground.data }, { on := 8, ground := Ground.chain }], guard := none }) rfl ?_ AllReadyH.nil)
            · intro K1 hK1
              rw [if_pos (by rfl)]
              have HC6 := dec_is (l ++ [r]) a5 (n + 1) c5 k V5 RU5.out (by have := HN1.out; omega) (HK.out.below hS5.out)
              go_wp2_with fail
              refine HC6.mono ?_
              rintro e V6 ⟨rfl, hb6⟩
              dsimp only
              clear HC6
              have hS6 : Hid (Below A.heap.size A V6) := hS5.out.trans (hb6.mono hS5.out.size)
              have RU6 : Hid (RuS V6 a5 (n + 1) (l ++ [r])) := RU5.out.below hb6
              clear hb6
              refine hK1.out _ _ hS6.out ?_
              clear hK1
              intro _
              try simp only [Act.put, List.setIfInBounds_toArray, List.set_cons_zero, List.set_cons_succ]
              refine wpAnyH_take (i := 11) (oi := { dst := some 7, op := Op.assign (Operand.tmp 21), type := 4, pos := "law.go:67", after := #[{ on := 2, ground := Ground.data }, { on := 10, ground := Ground.chain }, { on := 0, ground := Ground.phase }, { on := 1, ground := Ground.phase }, { on := 2, ground := Ground.phase }, { on := 3, ground := Ground.textOnly Departure.lateStores }, { on := 4, ground := Ground.textOnly Departure.lateStores }, { on := 5, ground := Ground.textOnly Departure.lateStoresUnsure }, { on := 6, ground := Ground.textOnly Departure.lateStores }, { on := 7, ground := Ground.textOnly Departure.lateStores }, { on := 8, ground := Ground.textOnly Departure.lateStoresUnsure }, { on := 9, ground := Ground.textOnly Departure.lateStores }, { on := 10, ground := Ground.textOnly Departure.lateStoresUnsure }], guard := none }) (v := .bool (dec l k)) rfl (by kernel_rfl) (by kernel_rfl) (by kernel_rfl) (fun _ _ _ h => h.elim) (Or.inl ⟨by rfl, ?y11⟩) hS6.out ?_
              case y11 =>
                intro V hV
                go_simp
              simp only [Act.put, List.setIfInBounds_toArray, List.set_cons_zero, List.set_cons_succ]
              refine wpAnyH_take (i := 12) (oi := { dst := some 8, op := Op.assign (Operand.tmp 29), type := 4, pos := "law.go:67", after := #[{ on := 10, ground := Ground.data }, { on := 11, ground := Ground.chain }, { on := 0, ground := Ground.phase }, { on := 1, ground := Ground.phase }, { on := 2, ground := Ground.phase }, { on := 3, ground := Ground.phase }, { on := 4, ground := Ground.phase }, { on := 5, ground := Ground.phase }, { on := 6, ground := Ground.phase }, { on := 7, ground := Ground.phase }, { on := 8, ground := Ground.phase }, { on := 9, ground := Ground.phase }, { on := 10, ground := Ground.phase }, { on := 11, ground := Ground.phase }], guard := none }) (v := .bool (dec (l ++ [r]) k)) rfl (by kernel_rfl) (by kernel_rfl) (by kernel_rfl) (fun _ _ _ h => h.elim) (Or.inl ⟨by rfl, ?y12⟩) hS6.out ?_
              case y12 =>
                intro V hV
                go_simp
              simp only [Act.put, List.setIfInBounds_toArray, List.set_cons_zero, List.set_cons_succ]
              refine wpAnyH_done (by kernel_rfl) ?_ _
              exact hQ _ _ _ _ _ _ hS6.out
    · intro K1 hK1
      rw [if_pos (by rfl)]
      obtain ⟨V2, hv2⟩ : ∃ V, V1.alloc (.cells #[.string r.who, .string r.ch, .string r.pre, iv r.right, .bool r.deny] 31) = V := ⟨_, rfl⟩
      obtain ⟨q2, hq2⟩ : ∃ q, V1.heap.size = q := ⟨_, rfl⟩
      have hb2 : Hid (Below V1.heap.size V1 V2) := by rw [← hv2]; exact below_al _ _
      have hS2 : Hid (Below A.heap.size A V2) := hS1.out.trans (hb2.out.mono hS1.out.size)
      have RD2 : Hid (Rd V2 31 5 (some ⟨q2, 0, none⟩) 1 (flat [r])) := by rw [← hv2, ← hq2]; exact rd_one _ r
      go_wp2
      clear hv2 hq2 hb2
      refine hK1.out _ _ hS2.out ?_
      clear hK1
      intro _
      try simp only [Act.put, List.setIfInBounds_toArray, List.set_cons_zero, List.set_cons_succ]
      refine wpAnyH_ready (rs := [2]) (by kernel_rfl) (by simp) (AllReadyH.cons (i := 2) (o := { dst := some 21, op := Op.call { callee := Callee.value (Operand.func 15), args := #[Operand.tmp 19, Operand.tmp 20], argTypes := #[22, 27] }, type := 4, pos := "law.go:67", after := #[{ on := 0, ground := Ground.data }, { on := 1, ground := Ground.data }], guard := none }) rfl ?_ AllReadyH.nil)
      · intro K1 hK1
        rw [if_pos (by rfl)]
        have HC3 := dec_is l a n cp k V2 (HRU.out.below hS2.out) HN.out (HK.out.below hS2.out)
        go_wp2_with fail
        refine HC3.mono ?_
        rintro e V3 ⟨rfl, hb3⟩
        dsimp only
        clear HC3
        have hS3 : Hid (Below A.heap.size A V3) := hS2.out.trans (hb3.mono hS2.out.size)
        have RD3 : Hid (Rd V3 31 5 (some ⟨q2, 0, none⟩) 1 (flat [r])) := RD2.out.below hb3 (Nat.le_refl _)
        clear hb3
        refine hK1.out _ _ hS3.out ?_
        clear hK1
        intro _
        try simp only [Act.put, List.setIfInBounds_toArray, List.set_cons_zero, List.set_cons_succ]
        refine wpAnyH_ready (rs := [5]) (by kernel_rfl) (by simp) (AllReadyH.cons (i := 5) (o := { dst := some 24, op := Op.call { callee := Callee.builtin Builtin.append, args := #[Operand.tmp 22, Operand.tmp 23], argTypes := #[22, 22] }, type := 22, pos := "law.go:67", after := #[{ on := 3, ground := Ground.data }, { on := 4, ground := Ground.data }, { on := 2, ground := Ground.chain }], guard := none }) rfl ?_ AllReadyH.nil)
        · intro K1 hK1
          obtain ⟨B4, hB4⟩ : ∃ B, V3.heap.size = B := ⟨_, rfl⟩
          refine step_append_bs (by rfl) 24 rfl (.tmp 22) (.tmp 23) 22 rfl V3 31 i0 _ 5 B4 Try.underlying22 HI0.out.1 HI0.out.2.1 HI0.out.2.2.1 HI0.out.2.2.2 rfl (by omega) (.slice (some ⟨q1, 0, none⟩) 0 0) 0 [] (.inl ⟨_, rfl, Rd.nil _ _ _ _, .inr ⟨q1, 0, rfl⟩⟩) a n cp (flat l) rfl rfl ((HL.out.below hS3.out (Nat.le_refl _))) (by rw [hB4]; exact Nat.le_refl _) (by have := HN.out; omega) ?_
          intro v4 V4 hb4 hw4
          have hw42 : Hid (Below V3.heap.size V3 V4) := by rw [hB4]; exact hw4.out
          have hS4 : Hid (Below A.heap.size A V4) := hS3.out.trans (hw42.out.mono hS3.out.size)
          have RD4 : Hid (Rd V4 31 5 (some ⟨q2, 0, none⟩) 1 (flat [r])) := RD3.out.below hw42.out (Nat.le_refl _)
          have BS4 : Hid (Bs 31 5 B4 V4 v4 n (flat l)) := by have h := hb4.out; rw [Nat.zero_add, List.nil_append] at h; exact h
          have HBB4 : Hid (A.heap.size ≤ B4 ∧ B4 ≤ V4.heap.size) := by rw [← hB4]; exact ⟨hS3.out.size, hw42.out.size⟩
          clear hB4 hb4 hw4
          refine hK1.out _ _ hS4.out ?_
          clear hK1
          intro _
          try simp only [Act.put, List.setIfInBounds_toArray, List.set_cons_zero, List.set_cons_succ]
          refine wpAnyH_ready (rs := [8]) (by kernel_rfl) (by simp) (AllReadyH.cons (i := 8) (o := { dst := some 27, op := Op.call { callee := Callee.builtin Builtin.append, args := #[Operand.tmp 24, Operand.tmp 26], argTypes := #[22, 22] }, type := 22, pos := "law.go:67", after := #[{ on := 5, ground := Ground.data }, { on := 7, ground := Ground.data }, { on := 5, ground := Ground.chain }], guard := none }) rfl ?_ AllReadyH.nil)
          · intro K1 hK1
            have hsz5 : B4 ≤ V4.heap.size := by have h1 := HBB4.out.2; have h2 := h1; omega
            refine step_append_bs (by rfl) 27 rfl (.tmp 24) (.tmp 26) 22 rfl V4 31 i0 _ 5 B4 Try.underlying22 HI0.out.1 HI0.out.2.1 HI0.out.2.2.1 HI0.out.2.2.2 rfl (by omega) v4 n (flat l) BS4.out (some ⟨q2, 0, none⟩) 1 1 (flat [r]) rfl rfl RD4.out hsz5 (by have := HN.out; omega) ?_
            intro v5 V5 hb5 hw5
            have hS5 : Hid (Below A.heap.size A V5) := hS4.out.trans (hw5.out.mono HBB4.out.1)
            obtain ⟨a5, c5, he5, RU5⟩ : ∃ a c, v5 = .slice a (n + 1) c ∧ Hid (RuS V5 a (n + 1) (l ++ [r])) := rus_of_bs (by have h := hb5.out; rw [← flat_app] at h; exact h) HSH.out
            subst he5
            clear hb5 hw5
            refine hK1.out _ _ hS5.out ?_
            clear hK1
            intro _
            try simp only [Act.put, List.setIfInBounds_toArray, List.set_cons_zero, List.set_cons_succ]
            refine wpAnyH_ready (rs := [10]) (by kernel_rfl) (by simp) (AllReadyH.cons (i := 10) (o := { dst := some 29, op := Op.call { callee := Callee.value (Operand.func 15), args := #[Operand.tmp 27, Operand.tmp 28], argTypes := #[22, 27] }, type := 4, pos := "law.go:67", after := #[{ on := 8, ground := Ground.data }, { on := 9, ground := Ground.data }, { on := 8, ground := Ground.chain }], guard := none }) rfl ?_ AllReadyH.nil)
            · intro K1 hK1
              rw [if_pos (by rfl)]
              have HC6 := dec_is (l ++ [r]) a5 (n + 1) c5 k V5 RU5.out (by have := HN1.out; omega) (HK.out.below hS5.out)
              go_wp2_with fail
              refine HC6.mono ?_
              rintro e V6 ⟨rfl, hb6⟩
              dsimp only
              clear HC6
              have hS6 : Hid (Below A.heap.size A V6) := hS5.out.trans (hb6.mono hS5.out.size)
              have RU6 : Hid (RuS V6 a5 (n + 1) (l ++ [r])) := RU5.out.below hb6
              clear hb6
              refine hK1.out _ _ hS6.out ?_
              clear hK1
              intro _
              try simp only [Act.put, List.setIfInBounds_toArray, List.set_cons_zero, List.set_cons_succ]
              refine wpAnyH_take (i := 11) (oi := { dst := some 7, op := Op.assign (Operand.tmp 21), type := 4, pos := "law.go:67", after := #[{ on := 2, ground := Ground.data }, { on := 10, ground := Ground.chain }, { on := 0, ground := Ground.phase }, { on := 1, ground := Ground.phase }, { on := 2, ground := Ground.phase }, { on := 3, ground := Ground.textOnly Departure.lateStores }, { on := 4, ground := Ground.textOnly Departure.lateStores }, { on := 5, ground := Ground.textOnly Departure.lateStoresUnsure }, { on := 6, ground := Ground.textOnly Departure.lateStores }, { on := 7, ground := Ground.textOnly Departure.lateStores }, { on := 8, ground := Ground.textOnly Departure.lateStoresUnsure }, { on := 9, ground := Ground.textOnly Departure.lateStores }, { on := 10, ground := Ground.textOnly Departure.lateStoresUnsure }], guard := none }) (v := .bool (dec l k)) rfl (by kernel_rfl) (by kernel_rfl) (by kernel_rfl) (fun _ _ _ h => h.elim) (Or.inl ⟨by rfl, ?y13⟩) hS6.out ?_
              case y13 =>
                intro V hV
                go_simp
              simp only [Act.put, List.setIfInBounds_toArray, List.set_cons_zero, List.set_cons_succ]
              refine wpAnyH_take (i := 12) (oi := { dst := some 8, op := Op.assign (Operand.tmp 29), type := 4, pos := "law.go:67", after := #[{ on := 10, ground := Ground.data }, { on := 11, ground := Ground.chain }, { on := 0, ground := Ground.phase }, { on := 1, ground := Ground.phase }, { on := 2, ground := Ground.phase }, { on := 3, ground := Ground.phase }, { on := 4, ground := Ground.phase }, { on := 5, ground := Ground.phase }, { on := 6, ground := Ground.phase }, { on := 7, ground := Ground.phase }, { on := 8, ground := Ground.phase }, { on := 9, ground := Ground.phase }, { on := 10, ground := Ground.phase }, { on := 11, ground := Ground.phase }], guard := none }) (v := .bool (dec (l ++ [r]) k)) rfl (by kernel_rfl) (by kernel_rfl) (by kernel_rfl) (fun _ _ _ h => h.elim) (Or.inl ⟨by rfl, ?y14⟩) hS6.out ?_
              case y14 =>
                intro V hV
                go_simp
              simp only [Act.put, List.setIfInBounds_toArray, List.set_cons_zero, List.set_cons_succ]
              refine wpAnyH_done (by kernel_rfl) ?_ _
              exact hQ _ _ _ _ _ _ hS6.out
  · intro K1 hK1
    rw [if_pos (by rfl)]
    obtain ⟨V1, hv1⟩ : ∃ V, V0.alloc (.cells #[.string r.who, .string r.ch, .string r.pre, iv r.right, .bool r.deny] 31) = V := ⟨_, rfl⟩
    obtain ⟨q1, hq1⟩ : ∃ q, V0.heap.size = q := ⟨_, rfl⟩
    have hb1 : Hid (Below V0.heap.size V0 V1) := by rw [← hv1]; exact below_al _ _
    have hS1 : Hid (Below A.heap.size A V1) := hS0.out.trans (hb1.out.mono hS0.out.size)
    have RD1 : Hid (Rd V1 31 5 (some ⟨q1, 0, none⟩) 1 (flat [r])) := by rw [← hv1, ← hq1]; exact rd_one _ r
    go_wp2
    clear hv1 hq1 hb1
    refine hK1.out _ _ hS1.out ?_
    clear hK1
    intro _
    try simp only [Act.put, List.setIfInBounds_toArray, List.set_cons_zero, List.set_cons_succ]
    refine wpAnyH_ready (rs := [2, 3]) (by kernel_rfl) (by simp) (AllReadyH.cons (i := 2) (o := { dst := some 21, op := Op.call { callee := Callee.value (Operand.func 15), args := #[Operand.tmp 19, Operand.tmp 20], argTypes := #[22, 27] }, type := 4, pos := "law.go:67", after := #[{ on := 0, ground := Ground.data }, { on := 1, ground := Ground.data }], guard := none }) rfl ?_ (AllReadyH.cons (i := 3) (o := { dst := some 22, op := Op.buildSlice 22 0 #[], type := 22, pos := "law.go:67", after := #[], guard := none }) rfl ?_ AllReadyH.nil))
    · intro K1 hK1
      rw [if_pos (by rfl)]
      have HC2 := dec_is l a n cp k V1 (HRU.out.below hS1.out) HN.out (HK.out.below hS1.out)
      go_wp2_with fail
      refine HC2.mono ?_
      rintro e V2 ⟨rfl, hb2⟩
      dsimp only
      clear HC2
      have hS2 : Hid (Below A.heap.size A V2) := hS1.out.trans (hb2.mono hS1.out.size)
      have RD2 : Hid (Rd V2 31 5 (some ⟨q1, 0, none⟩) 1 (flat [r])) := RD1.out.below hb2 (Nat.le_refl _)
      clear hb2
      refine hK1.out _ _ hS2.out ?_
      clear hK1
      intro _
      try simp only [Act.put, List.setIfInBounds_toArray, List.set_cons_zero, List.set_cons_succ]
      refine wpAnyH_ready (rs := [3]) (by kernel_rfl) (by simp) (AllReadyH.cons (i := 3) (o := { dst := some 22, op := Op.buildSlice 22 0 #[], type := 22, pos := "law.go:67", after := #[], guard := none }) rfl ?_ AllReadyH.nil)
      · intro K1 hK1
        rw [if_pos (by rfl)]
        obtain ⟨V3, hv3⟩ : ∃ V, V2.alloc (.cells #[] 31) = V := ⟨_, rfl⟩
        obtain ⟨q3, hq3⟩ : ∃ q, V2.heap.size = q := ⟨_, rfl⟩
        have hb3 : Hid (Below V2.heap.size V2 V3) := by rw [← hv3]; exact below_al _ _
        have hS3 : Hid (Below A.heap.size A V3) := hS2.out.trans (hb3.out.mono hS2.out.size)
        have RD3 : Hid (Rd V3 31 5 (some ⟨q1, 0, none⟩) 1 (flat [r])) := RD2.out.below hb3.out (Nat.le_refl _)
        have HQ3 : Hid (A.heap.size ≤ q3 ∧ q3 ≤ V3.heap.size) := by rw [← hq3]; exact ⟨hS2.out.size, hb3.out.size⟩
        go_wp2
        clear hv3 hq3 hb3
        refine hK1.out _ _ hS3.out ?_
        clear hK1
        intro _
        try simp only [Act.put, List.setIfInBounds_toArray, List.set_cons_zero, List.set_cons_succ]
        refine wpAnyH_ready (rs := [5]) (by kernel_rfl) (by simp) (AllReadyH.cons (i := 5) (o := { dst := some 24, op := Op.call { callee := Callee.builtin Builtin.append, args := #[Operand.tmp 22, Operand.tmp 23], argTypes := #[22, 22] }, type := 22, pos := "law.go:67", after := #[{ on := 3, ground := Ground.data }, { on := 4, ground := Ground.data }, { on := 2, ground := Ground.chain }], guard := none }) rfl ?_ AllReadyH.nil)
        · intro K1 hK1
          obtain ⟨B4, hB4⟩ : ∃ B, V3.heap.size = B := ⟨_, rfl⟩
          refine step_append_bs (by rfl) 24 rfl (.tmp 22) (.tmp 23) 22 rfl V3 31 i0 _ 5 B4 Try.underlying22 HI0.out.1 HI0.out.2.1 HI0.out.2.2.1 HI0.out.2.2.2 rfl (by omega) (.slice (some ⟨q3, 0, none⟩) 0 0) 0 [] (.inl ⟨_, rfl, Rd.nil _ _ _ _, .inr ⟨q3, 0, rfl⟩⟩) a n cp (flat l) rfl rfl ((HL.out.below hS3.out (Nat.le_refl _))) (by rw [hB4]; exact Nat.le_refl _) (by have := HN.out; omega) ?_
          intro v4 V4 hb4 hw4
          have hw42 : Hid (Below V3.heap.size V3 V4) := by rw [hB4]; exact hw4.out
          have hS4 : Hid (Below A.heap.size A V4) := hS3.out.trans (hw42.out.mono hS3.out.size)
          have RD4 : Hid (Rd V4 31 5 (some ⟨q1, 0, none⟩) 1 (flat [r])) := RD3.out.below hw42.out (Nat.le_refl _)
          have BS4 : Hid (Bs 31 5 B4 V4 v4 n (flat l)) := by have h := hb4.out; rw [Nat.zero_add, List.nil_append] at h; exact h
          have HBB4 : Hid (A.heap.size ≤ B4 ∧ B4 ≤ V4.heap.size) := by rw [← hB4]; exact ⟨hS3.out.size, hw42.out.size⟩
          clear hB4 hb4 hw4
          refine hK1.out _ _ hS4.out ?_
          clear hK1
          intro _
          try simp only [Act.put, List.setIfInBounds_toArray, List.set_cons_zero, List.set_cons_succ]
          refine wpAnyH_ready (rs := [8]) (by kernel_rfl) (by simp) (AllReadyH.cons (i := 8) (o := { dst := some 27, op := Op.call { callee := Callee.builtin Builtin.append, args := #[Operand.tmp 24, Operand.tmp 26], argTypes := #[22, 22] }, type := 22, pos := "law.go:67", after := #[{ on := 5, ground := Ground.data }, { on := 7, ground := Ground.data }, { on := 5, ground := Ground.chain }], guard := none }) rfl ?_ AllReadyH.nil)
          · intro K1 hK1
            have hsz5 : B4 ≤ V4.heap.size := by have h1 := HBB4.out.2; have h2 := h1; omega
            refine step_append_bs (by rfl) 27 rfl (.tmp 24) (.tmp 26) 22 rfl V4 31 i0 _ 5 B4 Try.underlying22 HI0.out.1 HI0.out.2.1 HI0.out.2.2.1 HI0.out.2.2.2 rfl (by omega) v4 n (flat l) BS4.out (some ⟨q1, 0, none⟩) 1 1 (flat [r]) rfl rfl RD4.out hsz5 (by have := HN.out; omega) ?_
            intro v5 V5 hb5 hw5
            have hS5 : Hid (Below A.heap.size A V5) := hS4.out.trans (hw5.out.mono HBB4.out.1)
            obtain ⟨a5, c5, he5, RU5⟩ : ∃ a c, v5 = .slice a (n + 1) c ∧ Hid (RuS V5 a (n + 1) (l ++ [r])) := rus_of_bs (by have h := hb5.out; rw [← flat_app] at h; exact h) HSH.out
            subst he5
            clear hb5 hw5
            refine hK1.out _ _ hS5.out ?_
            clear hK1
            intro _
            try simp only [Act.put, List.setIfInBounds_toArray, List.set_cons_zero, List.set_cons_succ]
            refine wpAnyH_ready (rs := [10]) (by kernel_rfl) (by simp) (AllReadyH.cons (i := 10) (o := { dst := some 29, op := Op.call { callee := Callee.value (Operand.func 15), args := #[Operand.tmp 27, Operand.tmp 28], argTypes := #[22, 27] }, type := 4, pos := "law.go:67", after := #[{ on := 8, ground := Ground.data }, { on := 9, ground := Ground.data }, { on := 8, ground := Ground.chain }], guard := none }) rfl ?_ AllReadyH.nil)
            · intro K1 hK1
              rw [if_pos (by rfl)]
              have HC6 := dec_is (l ++ [r]) a5 (n + 1) c5 k V5 RU5.out (by have := HN1.out; omega) (HK.out.below hS5.out)
              go_wp2_with fail
              refine HC6.mono ?_
              rintro e V6 ⟨rfl, hb6⟩
              dsimp only
              clear HC6
              have hS6 : Hid (Below A.heap.size A V6) := hS5.out.trans (hb6.mono hS5.out.size)
              have RU6 : Hid (RuS V6 a5 (n + 1) (l ++ [r])) := RU5.out.below hb6
              clear hb6
              refine hK1.out _ _ hS6.out ?_
              clear hK1
              intro _
              try simp only [Act.put, List.setIfInBounds_toArray, List.set_cons_zero, List.set_cons_succ]
              refine wpAnyH_take (i := 11) (oi := { dst := some 7, op := Op.assign (Operand.tmp 21), type := 4, pos := "law.go:67", after := #[{ on := 2, ground := Ground.data }, { on := 10, ground := Ground.chain }, { on := 0, ground := Ground.phase }, { on := 1, ground := Ground.phase }, { on := 2, ground := Ground.phase }, { on := 3, ground := Ground.textOnly Departure.lateStores }, { on := 4, ground := Ground.textOnly Departure.lateStores }, { on := 5, ground := Ground.textOnly Departure.lateStoresUnsure }, { on := 6, ground := Ground.textOnly Departure.lateStores }, { on := 7, ground := Ground.textOnly Departure.lateStores }, { on := 8, ground := Ground.textOnly Departure.lateStoresUnsure }, { on := 9, ground := Ground.textOnly Departure.lateStores }, { on := 10, ground := Ground.textOnly Departure.lateStoresUnsure }], guard := none }) (v := .bool (dec l k)) rfl (by kernel_rfl) (by kernel_rfl) (by kernel_rfl) (fun _ _ _ h => h.elim) (Or.inl ⟨by rfl, ?y15⟩) hS6.out ?_
              case y15 =>
                intro V hV
                go_simp
              simp only [Act.put, List.setIfInBounds_toArray, List.set_cons_zero, List.set_cons_succ]
              refine wpAnyH_take (i := 12) (oi := { dst := some 8, op := Op.assign (Operand.tmp 29), type := 4, pos := "law.go:67", after := #[{ on := 10, ground := Ground.data }, { on := 11, ground := Ground.chain }, { on := 0, ground := Ground.phase }, { on := 1, ground := Ground.phase }, { on := 2, ground := Ground.phase }, { on := 3, ground := Ground.phase }, { on := 4, ground := Ground.phase }, { on := 5, ground := Ground.phase }, { on := 6, ground := Ground.phase }, { on := 7, ground := Ground.phase }, { on := 8, ground := Ground.phase }, { on := 9, ground := Ground.phase }, { on := 10, ground := Ground.phase }, { on := 11, ground := Ground.phase }], guard := none }) (v := .bool (dec (l ++ [r]) k)) rfl (by kernel_rfl) (by kernel_rfl) (by kernel_rfl) (fun _ _ _ h => h.elim) (Or.inl ⟨by rfl, ?y16⟩) hS6.out ?_
              case y16 =>
                intro V hV
                go_simp
              simp only [Act.put, List.setIfInBounds_toArray, List.set_cons_zero, List.set_cons_succ]
              refine wpAnyH_done (by kernel_rfl) ?_ _
              exact hQ _ _ _ _ _ _ hS6.out
    · intro K1 hK1
      rw [if_pos (by rfl)]
      obtain ⟨V2, hv2⟩ : ∃ V, V1.alloc (.cells #[] 31) = V := ⟨_, rfl⟩
      obtain ⟨q2, hq2⟩ : ∃ q, V1.heap.size = q := ⟨_, rfl⟩
      have hb2 : Hid (Below V1.heap.size V1 V2) := by rw [← hv2]; exact below_al _ _
      have hS2 : Hid (Below A.heap.size A V2) := hS1.out.trans (hb2.out.mono hS1.out.size)
      have RD2 : Hid (Rd V2 31 5 (some ⟨q1, 0, none⟩) 1 (flat [r])) := RD1.out.below hb2.out (Nat.le_refl _)
      have HQ2 : Hid (A.heap.size ≤ q2 ∧ q2 ≤ V2.heap.size) := by rw [← hq2]; exact ⟨hS1.out.size, hb2.out.size⟩
      go_wp2
      clear hv2 hq2 hb2
      refine hK1.out _ _ hS2.out ?_
      clear hK1
      intro _
      try simp only [Act.put, List.setIfInBounds_toArray, List.set_cons_zero, List.set_cons_succ]
      refine wpAnyH_ready (rs := [2]) (by kernel_rfl) (by simp) (AllReadyH.cons (i := 2) (o := { dst := some 21, op := Op.call { callee := Callee.value (Operand.func 15), args := #[Operand.tmp 19, Operand.tmp 20], argTypes := #[22, 27] }, type := 4, pos := "law.go:67", after := #[{ on := 0, ground := Ground.data }, { on := 1, ground := Ground.data }], guard := none }) rfl ?_ AllReadyH.nil)
      · intro K1 hK1
        rw [if_pos (by rfl)]
        have HC3 := dec_is l a n cp k V2 (HRU.out.below hS2.out) HN.out (HK.out.below hS2.out)
        go_wp2_with fail
        refine HC3.mono ?_
        rintro e V3 ⟨rfl, hb3⟩
        dsimp only
        clear HC3
        have hS3 : Hid (Below A.heap.size A V3) := hS2.out.trans (hb3.mono hS2.out.size)
        have RD3 : Hid (Rd V3 31 5 (some ⟨q1, 0, none⟩) 1 (flat [r])) := RD2.out.below hb3 (Nat.le_refl _)
        clear hb3
        refine hK1.out _ _ hS3.out ?_
        clear hK1
        intro _
        try simp only [Act.put, List.setIfInBounds_toArray, List.set_cons_zero, List.set_cons_succ]
        refine wpAnyH_ready (rs := [5]) (by kernel_rfl) (by simp) (AllReadyH.cons (i := 5) (o := { dst := some 24, op := Op.call { callee := Callee.builtin Builtin.append, args := #[Operand.tmp 22, Operand.tmp 23], argTypes := #[22, 22] }, type := 22, pos := "law.go:67", after := #[{ on := 3, ground := Ground.data }, { on := 4, ground := Ground.data }, { on := 2, ground := Ground.chain }], guard := none }) rfl ?_ AllReadyH.nil)
        · intro K1 hK1
          obtain ⟨B4, hB4⟩ : ∃ B, V3.heap.size = B := ⟨_, rfl⟩
          refine step_append_bs (by rfl) 24 rfl (.tmp 22) (.tmp 23) 22 rfl V3 31 i0 _ 5 B4 Try.underlying22 HI0.out.1 HI0.out.2.1 HI0.out.2.2.1 HI0.out.2.2.2 rfl (by omega) (.slice (some ⟨q2, 0, none⟩) 0 0) 0 [] (.inl ⟨_, rfl, Rd.nil _ _ _ _, .inr ⟨q2, 0, rfl⟩⟩) a n cp (flat l) rfl rfl ((HL.out.below hS3.out (Nat.le_refl _))) (by rw [hB4]; exact Nat.le_refl _) (by have := HN.out; omega) ?_
          intro v4 V4 hb4 hw4
          have hw42 : Hid (Below V3.heap.size V3 V4) := by rw [hB4]; exact hw4.out
          have hS4 : Hid (Below A.heap.size A V4) := hS3.out.trans (hw42.out.mono hS3.out.size)
          have RD4 : Hid (Rd V4 31 5 (some ⟨q1, 0, none⟩) 1 (flat [r])) := RD3.out.below hw42.out (Nat.le_refl _)
          have BS4 : Hid (Bs 31 5 B4 V4 v4 n (flat l)) := by have h := hb4.out; rw [Nat.zero_add, List.nil_append] at h; exact h
          have HBB4 : Hid (A.heap.size ≤ B4 ∧ B4 ≤ V4.heap.size) := by rw [← hB4]; exact ⟨hS3.out.size, hw42.out.size⟩
          clear hB4 hb4 hw4
          refine hK1.out _ _ hS4.out ?_
          clear hK1
          intro _
          try simp only [Act.put, List.setIfInBounds_toArray, List.set_cons_zero, List.set_cons_succ]
          refine wpAnyH_ready (rs := [8]) (by kernel_rfl) (by simp) (AllReadyH.cons (i := 8) (o := { dst := some 27, op := Op.call { callee := Callee.builtin Builtin.append, args := #[Operand.tmp 24, Operand.tmp 26], argTypes := #[22, 22] }, type := 22, pos := "law.go:67", after := #[{ on := 5, ground := Ground.data }, { on := 7, ground := Ground.data }, { on := 5, ground := Ground.chain }], guard := none }) rfl ?_ AllReadyH.nil)
          · intro K1 hK1
            have hsz5 : B4 ≤ V4.heap.size := by have h1 := HBB4.out.2; have h2 := h1; omega
            refine step_append_bs (by rfl) 27 rfl (.tmp 24) (.tmp 26) 22 rfl V4 31 i0 _ 5 B4 Try.underlying22 HI0.out.1 HI0.out.2.1 HI0.out.2.2.1 HI0.out.2.2.2 rfl (by omega) v4 n (flat l) BS4.out (some ⟨q1, 0, none⟩) 1 1 (flat [r]) rfl rfl RD4.out hsz5 (by have := HN.out; omega) ?_
            intro v5 V5 hb5 hw5
            have hS5 : Hid (Below A.heap.size A V5) := hS4.out.trans (hw5.out.mono HBB4.out.1)
            obtain ⟨a5, c5, he5, RU5⟩ : ∃ a c, v5 = .slice a (n + 1) c ∧ Hid (RuS V5 a (n + 1) (l ++ [r])) := rus_of_bs (by have h := hb5.out; rw [← flat_app] at h; exact h) HSH.out
            subst he5
            clear hb5 hw5
            refine hK1.out _ _ hS5.out ?_
            clear hK1
            intro _
            try simp only [Act.put, List.setIfInBounds_toArray, List.set_cons_zero, List.set_cons_succ]
            refine wpAnyH_ready (rs := [10]) (by kernel_rfl) (by simp) (AllReadyH.cons (i := 10) (o := { dst := some 29, op := Op.call { callee := Callee.value (Operand.func 15), args := #[Operand.tmp 27, Operand.tmp 28], argTypes := #[22, 27] }, type := 4, pos := "law.go:67", after := #[{ on := 8, ground := Ground.data }, { on := 9, ground := Ground.data }, { on := 8, ground := Ground.chain }], guard := none }) rfl ?_ AllReadyH.nil)
            · intro K1 hK1
              rw [if_pos (by rfl)]
              have HC6 := dec_is (l ++ [r]) a5 (n + 1) c5 k V5 RU5.out (by have := HN1.out; omega) (HK.out.below hS5.out)
              go_wp2_with fail
              refine HC6.mono ?_
              rintro e V6 ⟨rfl, hb6⟩
              dsimp only
              clear HC6
              have hS6 : Hid (Below A.heap.size A V6) := hS5.out.trans (hb6.mono hS5.out.size)
              have RU6 : Hid (RuS V6 a5 (n + 1) (l ++ [r])) := RU5.out.below hb6
              clear hb6
              refine hK1.out _ _ hS6.out ?_
              clear hK1
              intro _
              try simp only [Act.put, List.setIfInBounds_toArray, List.set_cons_zero, List.set_cons_succ]
              refine wpAnyH_take (i := 11) (oi := { dst := some 7, op := Op.assign (Operand.tmp 21), type := 4, pos := "law.go:67", after := #[{ on := 2, ground := Ground.data }, { on := 10, ground := Ground.chain }, { on := 0, ground := Ground.phase }, { on := 1, ground := Ground.phase }, { on := 2, ground := Ground.phase }, { on := 3, ground := Ground.textOnly Departure.lateStores }, { on := 4, ground := Ground.textOnly Departure.lateStores }, { on := 5, ground := Ground.textOnly Departure.lateStoresUnsure }, { on := 6, ground := Ground.textOnly Departure.lateStores }, { on := 7, ground := Ground.textOnly Departure.lateStores }, { on := 8, ground := Ground.textOnly Departure.lateStoresUnsure }, { on := 9, ground := Ground.textOnly Departure.lateStores }, { on := 10, ground := Ground.textOnly Departure.lateStoresUnsure }], guard := none }) (v := .bool (dec l k)) rfl (by kernel_rfl) (by kernel_rfl) (by kernel_rfl) (fun _ _ _ h => h.elim) (Or.inl ⟨by rfl, ?y17⟩) hS6.out ?_
              case y17 =>
                intro V hV
                go_simp
              simp only [Act.put, List.setIfInBounds_toArray, List.set_cons_zero, List.set_cons_succ]
              refine wpAnyH_take (i := 12) (oi := { dst := some 8, op := Op.assign (Operand.tmp 29), type := 4, pos := "law.go:67", after := #[{ on := 10, ground := Ground.data }, { on := 11, ground := Ground.chain }, { on := 0, ground := Ground.phase }, { on := 1, ground := Ground.phase }, { on := 2, ground := Ground.phase }, { on := 3, ground := Ground.phase }, { on := 4, ground := Ground.phase }, { on := 5, ground := Ground.phase }, { on := 6, ground := Ground.phase }, { on := 7, ground := Ground.phase }, { on := 8, ground := Ground.phase }, { on := 9, ground := Ground.phase }, { on := 10, ground := Ground.phase }, { on := 11, ground := Ground.phase }], guard := none }) (v := .bool (dec (l ++ [r]) k)) rfl (by kernel_rfl) (by kernel_rfl) (by kernel_rfl) (fun _ _ _ h => h.elim) (Or.inl ⟨by rfl, ?y18⟩) hS6.out ?_
              case y18 =>
                intro V hV
                go_simp
              simp only [Act.put, List.setIfInBounds_toArray, List.set_cons_zero, List.set_cons_succ]
              refine wpAnyH_done (by kernel_rfl) ?_ _
              exact hQ _ _ _ _ _ _ hS6.out
#print axioms mono_dec
theorem dec_eq {f : Nat} {args : Array Value} {w : World} {b c : Bool} (h : b = c) (hc : Calls Try.prog f args w fun e w' => e = .returned (.bool b) ∧ Below w.heap.size w w') : Calls Try.prog f args w fun e w' => e = .returned (.bool c) ∧ Below w.heap.size w w' := h ▸ hc
set_option maxRecDepth 100000 in
set_option maxHeartbeats 4000000 in
theorem apart_dec {Q : Exit → Act → World → Prop} {x1 x2 x3 x6 x7 x8 x9 x10 x11 x12 x13 x14 x15 x16 x17 x18 x19 x20 x21 x22 x23 x24 x25 x26 x27 x28 x29 x30 x31 x32 x33 x34 x35 x36 x37 x38 x39 x40 x41 x42 x43 x44 x45 x46 x47 x48 x49 x50 x51 x52 x53 x54 x55 x56 x57 x58 : Value} {ds : List Deferred} {A : World} {g4 g5 n cp : Nat} {a : Option Addr} {r : Ru} {k : Ak} {l : List Ru}
    (HL : Hid (Rd A 31 5 a n (flat l))) (HN : Hid (n ≤ 2199023255551)) (HSH : Hid (∀ q ∈ l ++ [r], q.short)) (HR : Hid (Blk A g4 31 [.string r.who, .string r.ch, .string r.pre, iv r.right, .bool r.deny])) (HA : Hid (Blk A g5 27 [.string k.s.user, .slice k.s.ta k.s.tn k.s.tc, iv k.s.role, .string k.ch, .string k.path, iv k.right])) (HK : Hid (k.at A)) (HRU : Hid (RuS A a n l)) (HN1 : Hid (n + 1 ≤ 2199023255551)) (HSH2 : Hid (∀ q ∈ [r] ++ l, q.short)) (HEQ : Hid (dec ([r] ++ l) k = dec l k))
    (hQ : ∀ V (q2 : Nat) (a2 : Option Addr) (c2 : Nat), Below A.heap.size A V → Q .normal { tmps := #[.slice a n cp, x1, x2, x3, .pointer (some ⟨g4, 0, none⟩), .pointer (some ⟨g5, 0, none⟩), .bool true, x7, x8, x9, x10, x11, x12, x13, x14, x15, x16, x17, x18, x19, x20, x21, x22, x23, x24, x25, x26, x27, x28, x29, x30, x31, x32, x33, x34, x35, x36, x37, x38, x39, x40, x41, x42, x43, x44, x45, .slice a n cp, .agg #[.string k.s.user, .slice k.s.ta k.s.tn k.s.tc, iv k.s.role, .string k.ch, .string k.path, iv k.right], .bool (dec l k), .agg #[.string r.who, .string r.ch, .string r.pre, iv r.right, .bool r.deny], .slice (some ⟨q2, 0, none⟩) 1 1, .slice a n cp, .slice a2 (1 + n) c2, .agg #[.string k.s.user, .slice k.s.ta k.s.tn k.s.tc, iv k.s.role, .string k.ch, .string k.path, iv k.right], .bool (dec l k), .bool true, .bool true, .bool true, .bool true], defers := ds } V) :
    (Code.region 5 #[{ dst := some 46, op := Op.move (Operand.tmp 0), type := 22, pos := "law.go:92", after := #[], guard := none }, { dst := some 47, op := Op.load 27 (Operand.tmp 5), type := 27, pos := "law.go:92", after := #[], guard := none }, { dst := some 48, op := Op.call { callee := Callee.value (Operand.func 15), args := #[Operand.tmp 46, Operand.tmp 47], argTypes := #[22, 27] }, type := 4, pos := "law.go:92", after := #[{ on := 0, ground := Ground.data }, { on := 1, ground := Ground.data }], guard := none }, { dst := some 49, op := Op.load 31 (Operand.tmp 4), type := 31, pos := "law.go:92", after := #[], guard := none }, { dst := some 50, op := Op.buildSlice 22 1 #[(0, Operand.tmp 49)], type := 22, pos := "law.go:92", after := #[{ on := 3, ground := Ground.data }], guard := none }, { dst := some 51, op := Op.move (Operand.tmp 0), type := 22, pos := "law.go:92", after := #[], guard := none }, { dst := some 52, op := Op.call { callee := Callee.builtin Builtin.append, args := #[Operand.tmp 50, Operand.tmp 51], argTypes := #[22, 22] }, type := 22, pos := "law.go:92", after := #[{ on := 4, ground := Ground.data }, { on := 5, ground := Ground.data }, { on := 2, ground := Ground.chain }], guard := none }, { dst := some 53, op := Op.load 27 (Operand.tmp 5), type := 27, pos := "law.go:92", after := #[], guard := none }, { dst := some 54, op := Op.call { callee := Callee.value (Operand.func 15), args := #[Operand.tmp 52, Operand.tmp 53], argTypes := #[22, 27] }, type := 4, pos := "law.go:92", after := #[{ on := 6, ground := Ground.data }, { on := 7, ground := Ground.data }, { on := 6, ground := Ground.chain }], guard := none }, { dst := some 55, op := Op.binOp BinOp.eql 4 (Operand.tmp 48) (Operand.tmp 54) 4, type := 4, pos := "law.go:92", after := #[{ on := 2, ground := Ground.data }, { on := 8, ground := Ground.data }], guard := none }, { dst := some 56, op := Op.move (Operand.tmp 55), type := 4, pos := "law.go:92", after := #[{ on := 9, ground := Ground.data }, { on := 8, ground := Ground.chain }], guard := none }, { dst := some 57, op := Op.call { callee := Callee.value (Operand.func 10), args := #[], argTypes := #[] }, type := 4, pos := "law.go:92", after := #[{ on := 10, ground := Ground.chain }, { on := 10, ground := Ground.guard }], guard := some (10, true) }, { dst := some 58, op := Op.pick (Operand.tmp 56) (Operand.tmp 57) (Operand.const (Value.bool false)), type := 4, pos := "law.go:92", after := #[{ on := 10, ground := Ground.data }, { on := 11, ground := Ground.data }], guard := none }, { dst := some 6, op := Op.assign (Operand.tmp 58), type := 4, pos := "law.go:92", after := #[{ on := 12, ground := Ground.data }, { on := 11, ground := Ground.chain }, { on := 0, ground := Ground.phase }, { on := 1, ground := Ground.phase }, { on := 2, ground := Ground.phase }, { on := 3, ground := Ground.phase }, { on := 4, ground := Ground.phase }, { on := 5, ground := Ground.phase }, { on := 6, ground := Ground.phase }, { on := 7, ground := Ground.phase }, { on := 8, ground := Ground.phase }, { on := 9, ground := Ground.phase }, { on := 10, ground := Ground.phase }, { on := 11, ground := Ground.phase }, { on := 12, ground := Ground.phase }], guard := none }] true).wp Try.prog Q { tmps := #[.slice a n cp, x1, x2, x3, .pointer (some ⟨g4, 0, none⟩), .pointer (some ⟨g5, 0, none⟩), x6, x7, x8, x9, x10, x11, x12, x13, x14, x15, x16, x17, x18, x19, x20, x21, x22, x23, x24, x25, x26, x27, x28, x29, x30, x31, x32, x33, x34, x35, x36, x37, x38, x39, x40, x41, x42, x43, x44, x45, x46, x47, x48, x49, x50, x51, x52, x53, x54, x55, x56, x57, x58], defers := ds } A := by
  refine Code.wp_mono (Q := fun x a' w' => match x with | .normal => Q .normal a' w' | _ => False) (by intro x a' w' h; cases x <;> first | exact h | exact h.elim) ?_
  refine wp_region_held (S := fun V => Below A.heap.size A V) (by kernel_rfl) ?_
  have hS0 : Hid (Below A.heap.size A A.drew) := below_drew0 A
  change wpAnyH Try.prog .any _ _ (fun V => Below A.heap.size A V) 14 (Array.replicate 14 false) _ A.drew
  obtain ⟨V0, hV0⟩ : ∃ V0, A.drew = V0 := ⟨_, rfl⟩
  rw [hV0]
  rw [hV0] at hS0
  obtain ⟨i0, hi0, hz0, hz1, hz2⟩ := info31
  have HI0 : Hid (Try.prog.info? 31 = some i0 ∧ i0.zero = some (.agg #[.string ⟨#[]⟩, .string ⟨#[]⟩, .string ⟨#[]⟩, .int .i64 0, .bool false]) ∧ i0.size = 5 ∧ i0.bytes ≤ 64) := ⟨hi0, hz0, hz1, hz2⟩
  clear hi0 hz0 hz1 hz2
  clear hV0
  refine wpAnyH_take (i := 0) (oi := { dst := some 46, op := Op.move (Operand.tmp 0), type := 22, pos := "law.go:92", after := #[], guard := none }) (v := .slice a n cp) rfl (by kernel_rfl) (by kernel_rfl) (by kernel_rfl) (fun _ _ _ h => h.elim) (Or.inl ⟨by rfl, ?y1⟩) hS0.out ?_
  case y1 =>
    intro V hV
    go_simp
  simp only [Act.put, List.setIfInBounds_toArray, List.set_cons_zero, List.set_cons_succ]
  refine wpAnyH_take (i := 1) (oi := { dst := some 47, op := Op.load 27 (Operand.tmp 5), type := 27, pos := "law.go:92", after := #[], guard := none }) (v := .agg #[.string k.s.user, .slice k.s.ta k.s.tn k.s.tc, iv k.s.role, .string k.ch, .string k.path, iv k.right]) rfl (by kernel_rfl) (by kernel_rfl) (by kernel_rfl) (fun _ _ _ h => h.elim) (yieldsIf_load_mid (by rfl) _ _ rfl _ _ rfl ([.string k.s.user, .slice k.s.ta k.s.tn k.s.tc, iv k.s.role, .string k.ch, .string k.path, iv k.right]) _ (fun V hV => rangeAt_same (HA.out.range 0 6) ((show Below A.heap.size A V from hV).block _ (HA.out.lt))) Try.underlying27 rfl (size27)) hS0.out ?_
  simp only [Act.put, List.setIfInBounds_toArray, List.set_cons_zero, List.set_cons_succ]
  refine wpAnyH_take (i := 3) (oi := { dst := some 49, op := Op.load 31 (Operand.tmp 4), type := 31, pos := "law.go:92", after := #[], guard := none }) (v := .agg #[.string r.who, .string r.ch, .string r.pre, iv r.right, .bool r.deny]) rfl (by kernel_rfl) (by kernel_rfl) (by kernel_rfl) (fun _ _ _ h => h.elim) (yieldsIf_load_mid (by rfl) _ _ rfl _ _ rfl ([.string r.who, .string r.ch, .string r.pre, iv r.right, .bool r.deny]) _ (fun V hV => rangeAt_same (HR.out.range 0 5) ((show Below A.heap.size A V from hV).block _ (HR.out.lt))) Try.underlying31 rfl (size31)) hS0.out ?_
  simp only [Act.put, List.setIfInBounds_toArray, List.set_cons_zero, List.set_cons_succ]
  refine wpAnyH_take (i := 5) (oi := { dst := some 51, op := Op.move (Operand.tmp 0), type := 22, pos := "law.go:92", after := #[], guard := none }) (v := .slice a n cp) rfl (by kernel_rfl) (by kernel_rfl) (by kernel_rfl) (fun _ _ _ h => h.elim) (Or.inl ⟨by rfl, ?y2⟩) hS0.out ?_
  case y2 =>
    intro V hV
    go_simp
  simp only [Act.put, List.setIfInBounds_toArray, List.set_cons_zero, List.set_cons_succ]
  refine wpAnyH_take (i := 7) (oi := { dst := some 53, op := Op.load 27 (Operand.tmp 5), type := 27, pos := "law.go:92", after := #[], guard := none }) (v := .agg #[.string k.s.user, .slice k.s.ta k.s.tn k.s.tc, iv k.s.role, .string k.ch, .string k.path, iv k.right]) rfl (by kernel_rfl) (by kernel_rfl) (by kernel_rfl) (fun _ _ _ h => h.elim) (yieldsIf_load_mid (by rfl) _ _ rfl _ _ rfl ([.string k.s.user, .slice k.s.ta k.s.tn k.s.tc, iv k.s.role, .string k.ch, .string k.path, iv k.right]) _ (fun V hV => rangeAt_same (HA.out.range 0 6) ((show Below A.heap.size A V from hV).block _ (HA.out.lt))) Try.underlying27 rfl (size27)) hS0.out ?_
  simp only [Act.put, List.setIfInBounds_toArray, List.set_cons_zero, List.set_cons_succ]
  refine wpAnyH_ready (rs := [2, 4]) (by kernel_rfl) (by simp) (AllReadyH.cons (i := 2) (o := { dst := some 48, op := Op.call { callee := Callee.value (Operand.func 15), args := #[Operand.tmp 46, Operand.tmp 47], argTypes := #[22, 27] }, type := 4, pos := "law.go:92", after := #[{ on := 0, ground := Ground.data }, { on := 1, ground := Ground.data }], guard := none }) rfl ?_ (AllReadyH.cons (i := 4) (o := { dst := some 50, op := Op.buildSlice 22 1 #[(0, Operand.tmp 49)], type := 22, pos := "law.go:92", after := #[{ on := 3, ground := Ground.data }], guard := none }) rfl ?_ AllReadyH.nil))
  · intro K1 hK1
    rw [if_pos (by rfl)]
    have HC1 := dec_is l a n cp k V0 (HRU.out.below hS0.out) HN.out (HK.out.below hS0.out)
    go_wp2_with fail
    refine HC1.mono ?_
    rintro e V1 ⟨rfl, hb1⟩
    dsimp only
    clear HC1
    have hS1 : Hid (Below A.heap.size A V1) := hS0.out.trans (hb1.mono hS0.out.size)
    clear hb1
    refine hK1.out _ _ hS1.out ?_
    clear hK1
    intro _
    try simp only [Act.put, List.setIfInBounds_toArray, List.set_cons_zero, List.set_cons_succ]
    refine wpAnyH_ready (rs := [4]) (by kernel_rfl) (by simp) (AllReadyH.cons (i := 4) (o := { dst := some 50, op := Op.buildSlice 22 1 #[(0, Operand.tmp 49)], type := 22, pos := "law.go:92", after := #[{ on := 3, ground := Ground.data }], guard := none }) rfl ?_ AllReadyH.nil)
    · intro K1 hK1
      rw [if_pos (by rfl)]
      obtain ⟨V2, hv2⟩ : ∃ V, V1.alloc (.cells #[.string r.who, .string r.ch, .string r.pre, iv r.right, .bool r.deny] 31) = V := ⟨_, rfl⟩
      obtain ⟨q2, hq2⟩ : ∃ q, V1.heap.size = q := ⟨_, rfl⟩
      have hb2 : Hid (Below V1.heap.size V1 V2) := by rw [← hv2]; exact below_al _ _
      have hS2 : Hid (Below A.heap.size A V2) := hS1.out.trans (hb2.out.mono hS1.out.size)
      have RD2 : Hid (Rd V2 31 5 (some ⟨q2, 0, none⟩) 1 (flat [r])) := by rw [← hv2, ← hq2]; exact rd_one _ r
      go_wp2
      clear hv2 hq2 hb2
      refine hK1.out _ _ hS2.out ?_
      clear hK1
      intro _
      try simp only [Act.put, List.setIfInBounds_toArray, List.set_cons_zero, List.set_cons_succ]
      refine wpAnyH_ready (rs := [6]) (by kernel_rfl) (by simp) (AllReadyH.cons (i := 6) (o := { dst := some 52, op := Op.call { callee := Callee.builtin Builtin.append, args := #[Operand.tmp 50, Operand.tmp 51], argTypes := #[22, 22] }, type := 22, pos := "law.go:92", after := #[{ on := 4, ground := Ground.data }, { on := 5, ground := Ground.data }, { on := 2, ground := Ground.chain }], guard := none }) rfl ?_ AllReadyH.nil)
      · intro K1 hK1
        obtain ⟨B3, hB3⟩ : ∃ B, V2.heap.size = B := ⟨_, rfl⟩
        refine step_append_bs (by rfl) 52 rfl (.tmp 50) (.tmp 51) 22 rfl V2 31 i0 _ 5 B3 Try.underlying22 HI0.out.1 HI0.out.2.1 HI0.out.2.2.1 HI0.out.2.2.2 rfl (by omega) (.slice (some ⟨q2, 0, none⟩) 1 1) 1 (flat [r]) (.inl ⟨_, rfl, RD2.out, .inr ⟨q2, 0, rfl⟩⟩) a n cp (flat l) rfl rfl ((HL.out.below hS2.out (Nat.le_refl _))) (by rw [hB3]; exact Nat.le_refl _) (by have := HN.out; omega) ?_
        intro v3 V3 hb3 hw3
        have hS3 : Hid (Below A.heap.size A V3) := hS2.out.trans (hw3.out.mono (by rw [← hB3]; exact hS2.out.size))
        obtain ⟨a3, c3, he3, RU3⟩ : ∃ a c, v3 = .slice a (1 + n) c ∧ Hid (RuS V3 a (1 + n) ([r] ++ l)) := rus_of_bs (by have h := hb3.out; rw [← flat_app] at h; exact h) HSH2.out
        subst he3
        clear hb3 hw3 hB3
        refine hK1.out _ _ hS3.out ?_
        clear hK1
        intro _
        try simp only [Act.put, List.setIfInBounds_toArray, List.set_cons_zero, List.set_cons_succ]
        refine wpAnyH_ready (rs := [8]) (by kernel_rfl) (by simp) (AllReadyH.cons (i := 8) (o := { dst := some 54, op := Op.call { callee := Callee.value (Operand.func 15), args := #[Operand.tmp 52, Operand.tmp 53], argTypes := #[22, 27] }, type := 4, pos := "law.go:92", after := #[{ on := 6, ground := Ground.data }, { on := 7, ground := Ground.data }, { on := 6, ground := Ground.chain }], guard := none }) rfl ?_ AllReadyH.nil)
        · intro K1 hK1
          rw [if_pos (by rfl)]
          have HC4 := (dec_eq HEQ.out (dec_is ([r] ++ l) a3 (1 + n) c3 k V3 RU3.out (by have := HN1.out; omega) (HK.out.below hS3.out)))
          go_wp2_with fail
          refine HC4.mono ?_
          rintro e V4 ⟨rfl, hb4⟩
          dsimp only
          clear HC4
          have hS4 : Hid (Below A.heap.size A V4) := hS3.out.trans (hb4.mono hS3.out.size)
          have RU4 : Hid (RuS V4 a3 (1 + n) ([r] ++ l)) := RU3.out.below hb4
          clear hb4
          refine hK1.out _ _ hS4.out ?_
          clear hK1
          intro _
          try simp only [Act.put, List.setIfInBounds_toArray, List.set_cons_zero, List.set_cons_succ]
          refine wpAnyH_take (i := 9) (oi := { dst := some 55, op := Op.binOp BinOp.eql 4 (Operand.tmp 48) (Operand.tmp 54) 4, type := 4, pos := "law.go:92", after := #[{ on := 2, ground := Ground.data }, { on := 8, ground := Ground.data }], guard := none }) (v := .bool true) rfl (by kernel_rfl) (by kernel_rfl) (by kernel_rfl) (fun _ _ _ h => h.elim) (Or.inl ⟨by rfl, ?y3⟩) hS4.out ?_
          case y3 =>
            intro V hV
            go_simp
          simp only [Act.put, List.setIfInBounds_toArray, List.set_cons_zero, List.set_cons_succ]
          refine wpAnyH_take (i := 10) (oi := { dst := some 56, op := Op.move (Operand.tmp 55), type := 4, pos := "law.go:92", after := #[{ on := 9, ground := Ground.data }, { on := 8, ground := Ground.chain }], guard := none }) (v := .bool true) rfl (by kernel_rfl) (by kernel_rfl) (by kernel_rfl) (fun _ _ _ h => h.elim) (Or.inl ⟨by rfl, ?y4⟩) hS4.out ?_
          case y4 =>
            intro V hV
            go_simp
          simp only [Act.put, List.setIfInBounds_toArray, List.set_cons_zero, List.set_cons_succ]
          refine wpAnyH_ready (rs := [11]) (by kernel_rfl) (by simp) (AllReadyH.cons (i := 11) (o := { dst := some 57, op := Op.call { callee := Callee.value (Operand.func 10), args := #[], argTypes := #[] }, type := 4, pos := "law.go:92", after := #[{ on := 10, ground := Ground.chain }, { on := 10, ground := Ground.guard }], guard := some (10, true) }) rfl ?_ AllReadyH.nil)
          · intro K1 hK1
            rw [if_pos (by rfl)]
            have HC5 := lives_is V4
            go_wp2_with fail
            refine HC5.mono ?_
            rintro e V5 ⟨rfl, hb5⟩
            dsimp only
            clear HC5
            have hS5 : Hid (Below A.heap.size A V5) := hS4.out.trans (hb5.mono hS4.out.size)
            have RU5 : Hid (RuS V5 a3 (1 + n) ([r] ++ l)) := RU4.out.below hb5
            clear hb5
            refine hK1.out _ _ hS5.out ?_
            clear hK1
            intro _
            try simp only [Act.put, List.setIfInBounds_toArray, List.set_cons_zero, List.set_cons_succ]
            refine wpAnyH_take (i := 12) (oi := { dst := some 58, op := Op.pick (Operand.tmp 56) (Operand.tmp 57) (Operand.const (Value.bool false)), type := 4, pos := "law.go:92", after := #[{ on := 10, ground := Ground.data }, { on := 11, ground := Ground.data }], guard := none }) (v := .bool true) rfl (by kernel_rfl) (by kernel_rfl) (by kernel_rfl) (fun _ _ _ h => h.elim) (Or.inl ⟨by rfl, ?y5⟩) hS5.out ?_
            case y5 =>
              intro V hV
              go_simp
            simp only [Act.put, List.setIfInBounds_toArray, List.set_cons_zero, List.set_cons_succ]
            refine wpAnyH_take (i := 13) (oi := { dst := some 6, op := Op.assign (Operand.tmp 58), type := 4, pos := "law.go:92", after := #[{ on := 12, ground := Ground.data }, { on := 11, ground := Ground.chain }, { on := 0, ground := Ground.phase }, { on := 1, ground := Ground.phase }, { on := 2, ground := Ground.phase }, { on := 3, ground := Ground.phase }, { on := 4, ground := Ground.phase }, { on := 5, ground := Ground.phase }, { on := 6, ground := Ground.phase }, { on := 7, ground := Ground.phase }, { on := 8, ground := Ground.phase }, { on := 9, ground := Ground.phase }, { on := 10, ground := Ground.phase }, { on := 11, ground := Ground.phase }, { on := 12, ground := Ground.phase }], guard := none }) (v := .bool true) rfl (by kernel_rfl) (by kernel_rfl) (by kernel_rfl) (fun _ _ _ h => h.elim) (Or.inl ⟨by rfl, ?y6⟩) hS5.out ?_
            case y6 =>
              intro V hV
              go_simp
            simp only [Act.put, List.setIfInBounds_toArray, List.set_cons_zero, List.set_cons_succ]
            refine wpAnyH_done (by kernel_rfl) ?_ _
            exact hQ _ _ _ _ hS5.out
  · intro K1 hK1
    rw [if_pos (by rfl)]
    obtain ⟨V1, hv1⟩ : ∃ V, V0.alloc (.cells #[.string r.who, .string r.ch, .string r.pre, iv r.right, .bool r.deny] 31) = V := ⟨_, rfl⟩
    obtain ⟨q1, hq1⟩ : ∃ q, V0.heap.size = q := ⟨_, rfl⟩
    have hb1 : Hid (Below V0.heap.size V0 V1) := by rw [← hv1]; exact below_al _ _
    have hS1 : Hid (Below A.heap.size A V1) := hS0.out.trans (hb1.out.mono hS0.out.size)
    have RD1 : Hid (Rd V1 31 5 (some ⟨q1, 0, none⟩) 1 (flat [r])) := by rw [← hv1, ← hq1]; exact rd_one _ r
    go_wp2
    clear hv1 hq1 hb1
    refine hK1.out _ _ hS1.out ?_
    clear hK1
    intro _
    try simp only [Act.put, List.setIfInBounds_toArray, List.set_cons_zero, List.set_cons_succ]
    refine wpAnyH_ready (rs := [2]) (by kernel_rfl) (by simp) (AllReadyH.cons (i := 2) (o := { dst := some 48, op := Op.call { callee := Callee.value (Operand.func 15), args := #[Operand.tmp 46, Operand.tmp 47], argTypes := #[22, 27] }, type := 4, pos := "law.go:92", after := #[{ on := 0, ground := Ground.data }, { on := 1, ground := Ground.data }], guard := none }) rfl ?_ AllReadyH.nil)
    · intro K1 hK1
      rw [if_pos (by rfl)]
      have HC2 := dec_is l a n cp k V1 (HRU.out.below hS1.out) HN.out (HK.out.below hS1.out)
      go_wp2_with fail
      refine HC2.mono ?_
      rintro e V2 ⟨rfl, hb2⟩
      dsimp only
      clear HC2
      have hS2 : Hid (Below A.heap.size A V2) := hS1.out.trans (hb2.mono hS1.out.size)
      have RD2 : Hid (Rd V2 31 5 (some ⟨q1, 0, none⟩) 1 (flat [r])) := RD1.out.below hb2 (Nat.le_refl _)
      clear hb2
      refine hK1.out _ _ hS2.out ?_
      clear hK1
      intro _
      try simp only [Act.put, List.setIfInBounds_toArray, List.set_cons_zero, List.set_cons_succ]
      refine wpAnyH_ready (rs := [6]) (by kernel_rfl) (by simp) (AllReadyH.cons (i := 6) (o := { dst := some 52, op := Op.call { callee := Callee.builtin Builtin.append, args := #[Operand.tmp 50, Operand.tmp 51], argTypes := #[22, 22] }, type := 22, pos := "law.go:92", after := #[{ on := 4, ground := Ground.data }, { on := 5, ground := Ground.data }, { on := 2, ground := Ground.chain }], guard := none }) rfl ?_ AllReadyH.nil)
      · intro K1 hK1
        obtain ⟨B3, hB3⟩ : ∃ B, V2.heap.size = B := ⟨_, rfl⟩
        refine step_append_bs (by rfl) 52 rfl (.tmp 50) (.tmp 51) 22 rfl V2 31 i0 _ 5 B3 Try.underlying22 HI0.out.1 HI0.out.2.1 HI0.out.2.2.1 HI0.out.2.2.2 rfl (by omega) (.slice (some ⟨q1, 0, none⟩) 1 1) 1 (flat [r]) (.inl ⟨_, rfl, RD2.out, .inr ⟨q1, 0, rfl⟩⟩) a n cp (flat l) rfl rfl ((HL.out.below hS2.out (Nat.le_refl _))) (by rw [hB3]; exact Nat.le_refl _) (by have := HN.out; omega) ?_
        intro v3 V3 hb3 hw3
        have hS3 : Hid (Below A.heap.size A V3) := hS2.out.trans (hw3.out.mono (by rw [← hB3]; exact hS2.out.size))
        obtain ⟨a3, c3, he3, RU3⟩ : ∃ a c, v3 = .slice a (1 + n) c ∧ Hid (RuS V3 a (1 + n) ([r] ++ l)) := rus_of_bs (by have h := hb3.out; rw [← flat_app] at h; exact h) HSH2.out
        subst he3
        clear hb3 hw3 hB3
        refine hK1.out _ _ hS3.out ?_
        clear hK1
        intro _
        try simp only [Act.put, List.setIfInBounds_toArray, List.set_cons_zero, List.set_cons_succ]
        refine wpAnyH_ready (rs := [8]) (by kernel_rfl) (by simp) (AllReadyH.cons (i := 8) (o := { dst := some 54, op := Op.call { callee := Callee.value (Operand.func 15), args := #[Operand.tmp 52, Operand.tmp 53], argTypes := #[22, 27] }, type := 4, pos := "law.go:92", after := #[{ on := 6, ground := Ground.data }, { on := 7, ground := Ground.data }, { on := 6, ground := Ground.chain }], guard := none }) rfl ?_ AllReadyH.nil)
        · intro K1 hK1
          rw [if_pos (by rfl)]
          have HC4 := (dec_eq HEQ.out (dec_is ([r] ++ l) a3 (1 + n) c3 k V3 RU3.out (by have := HN1.out; omega) (HK.out.below hS3.out)))
          go_wp2_with fail
          refine HC4.mono ?_
          rintro e V4 ⟨rfl, hb4⟩
          dsimp only
          clear HC4
          have hS4 : Hid (Below A.heap.size A V4) := hS3.out.trans (hb4.mono hS3.out.size)
          have RU4 : Hid (RuS V4 a3 (1 + n) ([r] ++ l)) := RU3.out.below hb4
          clear hb4
          refine hK1.out _ _ hS4.out ?_
          clear hK1
          intro _
          try simp only [Act.put, List.setIfInBounds_toArray, List.set_cons_zero, List.set_cons_succ]
          refine wpAnyH_take (i := 9) (oi := { dst := some 55, op := Op.binOp BinOp.eql 4 (Operand.tmp 48) (Operand.tmp 54) 4, type := 4, pos := "law.go:92", after := #[{ on := 2, ground := Ground.data }, { on := 8, ground := Ground.data }], guard := none }) (v := .bool true) rfl (by kernel_rfl) (by kernel_rfl) (by kernel_rfl) (fun _ _ _ h => h.elim) (Or.inl ⟨by rfl, ?y7⟩) hS4.out ?_
          case y7 =>
            intro V hV
            go_simp
          simp only [Act.put, List.setIfInBounds_toArray, List.set_cons_zero, List.set_cons_succ]
          refine wpAnyH_take (i := 10) (oi := { dst := some 56, op := Op.move (Operand.tmp 55), type := 4, pos := "law.go:92", after := #[{ on := 9, ground := Ground.data }, { on := 8, ground := Ground.chain }], guard := none }) (v := .bool true) rfl (by kernel_rfl) (by kernel_rfl) (by kernel_rfl) (fun _ _ _ h => h.elim) (Or.inl ⟨by rfl, ?y8⟩) hS4.out ?_
          case y8 =>
            intro V hV
            go_simp
          simp only [Act.put, List.setIfInBounds_toArray, List.set_cons_zero, List.set_cons_succ]
          refine wpAnyH_ready (rs := [11]) (by kernel_rfl) (by simp) (AllReadyH.cons (i := 11) (o := { dst := some 57, op := Op.call { callee := Callee.value (Operand.func 10), args := #[], argTypes := #[] }, type := 4, pos := "law.go:92", after := #[{ on := 10, ground := Ground.chain }, { on := 10, ground := Ground.guard }], guard := some (10, true) }) rfl ?_ AllReadyH.nil)
          · intro K1 hK1
            rw [if_pos (by rfl)]
            have HC5 := lives_is V4
            go_wp2_with fail
            refine HC5.mono ?_
            rintro e V5 ⟨rfl, hb5⟩
            dsimp only
            clear HC5
            have hS5 : Hid (Below A.heap.size A V5) := hS4.out.trans (hb5.mono hS4.out.size)
            have RU5 : Hid (RuS V5 a3 (1 + n) ([r] ++ l)) := RU4.out.below hb5
            clear hb5
            refine hK1.out _ _ hS5.out ?_
            clear hK1
            intro _
            try simp only [Act.put, List.setIfInBounds_toArray, List.set_cons_zero, List.set_cons_succ]
            refine wpAnyH_take (i := 12) (oi := { dst := some 58, op := Op.pick (Operand.tmp 56) (Operand.tmp 57) (Operand.const (Value.bool false)), type := 4, pos := "law.go:92", after := #[{ on := 10, ground := Ground.data }, { on := 11, ground := Ground.data }], guard := none }) (v := .bool true) rfl (by kernel_rfl) (by kernel_rfl) (by kernel_rfl) (fun _ _ _ h => h.elim) (Or.inl ⟨by rfl, ?y9⟩) hS5.out ?_
            case y9 =>
              intro V hV
              go_simp
            simp only [Act.put, List.setIfInBounds_toArray, List.set_cons_zero, List.set_cons_succ]
            refine wpAnyH_take (i := 13) (oi := { dst := some 6, op := Op.assign (Operand.tmp 58), type := 4, pos := "law.go:92", after := #[{ on := 12, ground := Ground.data }, { on := 11, ground := Ground.chain }, { on := 0, ground := Ground.phase }, { on := 1, ground := Ground.phase }, { on := 2, ground := Ground.phase }, { on := 3, ground := Ground.phase }, { on := 4, ground := Ground.phase }, { on := 5, ground := Ground.phase }, { on := 6, ground := Ground.phase }, { on := 7, ground := Ground.phase }, { on := 8, ground := Ground.phase }, { on := 9, ground := Ground.phase }, { on := 10, ground := Ground.phase }, { on := 11, ground := Ground.phase }, { on := 12, ground := Ground.phase }], guard := none }) (v := .bool true) rfl (by kernel_rfl) (by kernel_rfl) (by kernel_rfl) (fun _ _ _ h => h.elim) (Or.inl ⟨by rfl, ?y10⟩) hS5.out ?_
            case y10 =>
              intro V hV
              go_simp
            simp only [Act.put, List.setIfInBounds_toArray, List.set_cons_zero, List.set_cons_succ]
            refine wpAnyH_done (by kernel_rfl) ?_ _
            exact hQ _ _ _ _ hS5.out
#print axioms apart_dec
set_option maxRecDepth 100000 in
set_option maxHeartbeats 4000000 in
theorem near_dec {Q : Exit → Act → World → Prop} {x1 x2 x3 x5 x6 x9 x10 x11 x12 x13 x14 x15 x16 x17 x18 x19 x20 x21 x22 x23 x24 x25 x26 x27 x28 x29 x30 x31 x32 x33 x34 x35 x36 x37 x38 x39 x40 x41 x42 x43 x44 x45 x46 x47 x48 x49 x50 x51 x52 x53 x54 x55 x56 x57 x58 x59 x60 x61 x62 x63 x64 x65 x66 x67 x68 x69 x70 x71 x72 x73 x74 x75 x76 x77 x78 x79 x80 x81 x82 x83 : Value} {ds : List Deferred} {A : World} {g4 g5 n cp : Nat} {a : Option Addr} {r : Ru} {dn : Bool} {k : Ak} {l : List Ru}
    (HL : Hid (Rd A 31 5 a n (flat l))) (HN : Hid (n ≤ 2199023255551)) (HSH : Hid (∀ q ∈ l ++ [r], q.short)) (HR : Hid (Blk A g4 31 [.string r.who, .string r.ch, .string r.pre, iv r.right, .bool r.deny])) (HA : Hid (Blk A g5 27 [.string k.s.user, .slice k.s.ta k.s.tn k.s.tc, iv k.s.role, .string k.ch, .string k.path, iv k.right])) (HK : Hid (k.at A)) (HRU : Hid (RuS A a n l)) (HN1 : Hid (n + 1 ≤ 2199023255551)) (HEQ : Hid (dec (l ++ [r]) k = !dn))
    (hQ : ∀ V (q q2 : Nat) (v : Value) (a2 : Option Addr) (c2 : Nat), Below A.heap.size A V → Q .normal { tmps := #[.slice a n cp, x1, x2, x3, .pointer (some ⟨g5, 0, none⟩), x5, .bool true, .pointer (some ⟨g4, 0, none⟩), .bool dn, x9, x10, x11, x12, x13, x14, x15, x16, x17, x18, x19, x20, x21, x22, x23, x24, x25, x26, x27, x28, x29, x30, x31, x32, x33, x34, x35, x36, x37, x38, x39, x40, x41, x42, x43, x44, x45, x46, x47, x48, x49, x50, x51, x52, x53, x54, x55, x56, x57, x58, x59, x60, x61, x62, x63, x64, x65, x66, x67, x68, x69, .slice (some ⟨q, 0, none⟩) 0 0, .slice a n cp, v, .agg #[.string r.who, .string r.ch, .string r.pre, iv r.right, .bool r.deny], .slice (some ⟨q2, 0, none⟩) 1 1, .slice a2 (n + 1) c2, .agg #[.string k.s.user, .slice k.s.ta k.s.tn k.s.tc, iv k.s.role, .string k.ch, .string k.path, iv k.right], .bool (!dn), .bool dn, .bool (!dn), .bool true, .bool true, .bool true, .bool true], defers := ds } V) :
    (Code.region 10 #[{ dst := some 70, op := Op.buildSlice 22 0 #[], type := 22, pos := "law.go:105", after := #[], guard := none }, { dst := some 71, op := Op.move (Operand.tmp 0), type := 22, pos := "law.go:105", after := #[], guard := none }, { dst := some 72, op := Op.call { callee := Callee.builtin Builtin.append, args := #[Operand.tmp 70, Operand.tmp 71], argTypes := #[22, 22] }, type := 22, pos := "law.go:105", after := #[{ on := 0, ground := Ground.data }, { on := 1, ground := Ground.data }], guard := none }, { dst := some 73, op := Op.load 31 (Operand.tmp 7), type := 31, pos := "law.go:105", after := #[], guard := none }, { dst := some 74, op := Op.buildSlice 22 1 #[(0, Operand.tmp 73)], type := 22, pos := "law.go:105", after := #[{ on := 3, ground := Ground.data }], guard := none }, { dst := some 75, op := Op.call { callee := Callee.builtin Builtin.append, args := #[Operand.tmp 72, Operand.tmp 74], argTypes := #[22, 22] }, type := 22, pos := "law.go:105", after := #[{ on := 2, ground := Ground.data }, { on := 4, ground := Ground.data }, { on := 2, ground := Ground.chain }], guard := none }, { dst := some 76, op := Op.load 27 (Operand.tmp 4), type := 27, pos := "law.go:105", after := #[], guard := none }, { dst := some 77, op := Op.call { callee := Callee.value (Operand.func 15), args := #[Operand.tmp 75, Operand.tmp 76], argTypes := #[22, 27] }, type := 4, pos := "law.go:105", after := #[{ on := 5, ground := Ground.data }, { on := 6, ground := Ground.data }, { on := 5, ground := Ground.chain }], guard := none }, { dst := some 78, op := Op.move (Operand.tmp 8), type := 4, pos := "law.go:105", after := #[], guard := none }, { dst := some 79, op := Op.unOp UnOp.not 4 (Operand.tmp 78), type := 4, pos := "law.go:105", after := #[{ on := 8, ground := Ground.data }], guard := none }, { dst := some 80, op := Op.binOp BinOp.eql 4 (Operand.tmp 77) (Operand.tmp 79) 4, type := 4, pos := "law.go:105", after := #[{ on := 7, ground := Ground.data }, { on := 9, ground := Ground.data }], guard := none }, { dst := some 81, op := Op.move (Operand.tmp 80), type := 4, pos := "law.go:105", after := #[{ on := 10, ground := Ground.data }, { on := 7, ground := Ground.chain }], guard := none }, { dst := some 82, op := Op.call { callee := Callee.value (Operand.func 10), args := #[], argTypes := #[] }, type := 4, pos := "law.go:105", after := #[{ on := 11, ground := Ground.chain }, { on := 11, ground := Ground.guard }], guard := some (11, true) }, { dst := some 83, op := Op.pick (Operand.tmp 81) (Operand.tmp 82) (Operand.const (Value.bool false)), type := 4, pos := "law.go:105", after := #[{ on := 11, ground := Ground.data }, { on := 12, ground := Ground.data }], guard := none }, { dst := some 6, op := Op.assign (Operand.tmp 83), type := 4, pos := "law.go:105", after := #[{ on := 13, ground := Ground.data }, { on := 12, ground := Ground.chain }, { on := 0, ground := Ground.phase }, { on := 1, ground := Ground.phase }, { on := 2, ground := Ground.phase }, { on := 3, ground := Ground.phase }, { on := 4, ground := Ground.phase }, { on := 5, ground := Ground.phase }, { on := 6, ground := Ground.phase }, { on := 7, ground := Ground.phase }, { on := 8, ground := Ground.phase }, { on := 9, ground := Ground.phase }, { on := 10, ground := Ground.phase }, { on := 11, ground := Ground.phase }, { on := 12, ground := Ground.phase }, { on := 13, ground := Ground.phase }], guard := none }] true).wp Try.prog Q { tmps := #[.slice a n cp, x1, x2, x3, .pointer (some ⟨g5, 0, none⟩), x5, x6, .pointer (some ⟨g4, 0, none⟩), .bool dn, x9, x10, x11, x12, x13, x14, x15, x16, x17, x18, x19, x20, x21, x22, x23, x24, x25, x26, x27, x28, x29, x30, x31, x32, x33, x34, x35, x36, x37, x38, x39, x40, x41, x42, x43, x44, x45, x46, x47, x48, x49, x50, x51, x52, x53, x54, x55, x56, x57, x58, x59, x60, x61, x62, x63, x64, x65, x66, x67, x68, x69, x70, x71, x72, x73, x74, x75, x76, x77, x78, x79, x80, x81, x82, x83], defers := ds } A := by
  refine Code.wp_mono (Q := fun x a' w' => match x with | .normal => Q .normal a' w' | _ => False) (by intro x a' w' h; cases x <;> first | exact h | exact h.elim) ?_
  refine wp_region_held (S := fun V => Below A.heap.size A V) (by kernel_rfl) ?_
  have hS0 : Hid (Below A.heap.size A A.drew) := below_drew0 A
  change wpAnyH Try.prog .any _ _ (fun V => Below A.heap.size A V) 15 (Array.replicate 15 false) _ A.drew
  obtain ⟨V0, hV0⟩ : ∃ V0, A.drew = V0 := ⟨_, rfl⟩
  rw [hV0]
  rw [hV0] at hS0
  obtain ⟨i0, hi0, hz0, hz1, hz2⟩ := info31
  have HI0 : Hid (Try.prog.info? 31 = some i0 ∧ i0.zero = some (.agg #[.string ⟨#[]⟩, .string ⟨#[]⟩, .string ⟨#[]⟩, .int .i64 0, .bool false]) ∧ i0.size = 5 ∧ i0.bytes ≤ 64) := ⟨hi0, hz0, hz1, hz2⟩
  clear hi0 hz0 hz1 hz2
  clear hV0
  refine wpAnyH_take (i := 1) (oi := { dst := some 71, op := Op.move (Operand.tmp 0), type := 22, pos := "law.go:105", after := #[], guard := none }) (v := .slice a n cp) rfl (by kernel_rfl) (by kernel_rfl) (by kernel_rfl) (fun _ _ _ h => h.elim) (Or.inl ⟨by rfl, ?y1⟩) hS0.out ?_
  case y1 =>
    intro V hV
    go_simp
  simp only [Act.put, List.setIfInBounds_toArray, List.set_cons_zero, List.set_cons_succ]
  refine wpAnyH_take (i := 3) (oi := { dst := some 73, op := Op.load 31 (Operand.tmp 7), type := 31, pos := "law.go:105", after := #[], guard := none }) (v := .agg #[.string r.who, .string r.ch, .string r.pre, iv r.right, .bool r.deny]) rfl (by kernel_rfl) (by kernel_rfl) (by kernel_rfl) (fun _ _ _ h => h.elim) (yieldsIf_load_mid (by rfl) _ _ rfl _ _ rfl ([.string r.who, .string r.ch, .string r.pre, iv r.right, .bool r.deny]) _ (fun V hV => rangeAt_same (HR.out.range 0 5) ((show Below A.heap.size A V from hV).block _ (HR.out.lt))) Try.underlying31 rfl (size31)) hS0.out ?_
  simp only [Act.put, List.setIfInBounds_toArray, List.set_cons_zero, List.set_cons_succ]
  refine wpAnyH_take (i := 6) (oi := { dst := some 76, op := Op.load 27 (Operand.tmp 4), type := 27, pos := "law.go:105", after := #[], guard := none }) (v := .agg #[.string k.s.user, .slice k.s.ta k.s.tn k.s.tc, iv k.s.role, .string k.ch, .string k.path, iv k.right]) rfl (by kernel_rfl) (by kernel_rfl) (by kernel_rfl) (fun _ _ _ h => h.elim) (yieldsIf_load_mid (by rfl) _ _ rfl _ _ rfl ([.string k.s.user, .slice k.s.ta k.s.tn k.s.tc, iv k.s.role, .string k.ch, .string k.path, iv k.right]) _ (fun V hV => rangeAt_same (HA.out.range 0 6) ((show Below A.heap.size A V from hV).block _ (HA.out.lt))) Try.underlying27 rfl (size27)) hS0.out ?_
  simp only [Act.put, List.setIfInBounds_toArray, List.set_cons_zero, List.set_cons_succ]
  refine wpAnyH_take (i := 8) (oi := { dst := some 78, op := Op.move (Operand.tmp 8), type := 4, pos := "law.go:105", after := #[], guard := none }) (v := .bool dn) rfl (by kernel_rfl) (by kernel_rfl) (by kernel_rfl) (fun _ _ _ h => h.elim) (Or.inl ⟨by rfl, ?y2⟩) hS0.out ?_
  case y2 =>
    intro V hV
    go_simp
  simp only [Act.put, List.setIfInBounds_toArray, List.set_cons_zero, List.set_cons_succ]
  refine wpAnyH_take (i := 9) (oi := { dst := some 79, op := Op.unOp UnOp.not 4 (Operand.tmp 78), type := 4, pos := "law.go:105", after := #[{ on := 8, ground := Ground.data }], guard := none }) (v := .bool (!dn)) rfl (by kernel_rfl) (by kernel_rfl) (by kernel_rfl) (fun _ _ _ h => h.elim) (Or.inl ⟨by rfl, ?y3⟩) hS0.out ?_
  case y3 =>
    intro V hV
    go_simp
  simp only [Act.put, List.setIfInBounds_toArray, List.set_cons_zero, List.set_cons_succ]
  refine wpAnyH_ready (rs := [0, 4]) (by kernel_rfl) (by simp) (AllReadyH.cons (i := 0) (o := { dst := some 70, op := Op.buildSlice 22 0 #[], type := 22, pos := "law.go:105", after := #[], guard := none }) rfl ?_ (AllReadyH.cons (i := 4) (o := { dst := some 74, op := Op.buildSlice 22 1 #[(0, Operand.tmp 73)], type := 22, pos := "law.go:105", after := #[{ on := 3, ground := Ground.data }], guard := none }) rfl ?_ AllReadyH.nil))
  · intro K1 hK1
    rw [if_pos (by rfl)]
    obtain ⟨V1, hv1⟩ : ∃ V, V0.alloc (.cells #[] 31) = V := ⟨_, rfl⟩
    obtain ⟨q1, hq1⟩ : ∃ q, V0.heap.size = q := ⟨_, rfl⟩
    have hb1 : Hid (Below V0.heap.size V0 V1) := by rw [← hv1]; exact below_al _ _
    have hS1 : Hid (Below A.heap.size A V1) := hS0.out.trans (hb1.out.mono hS0.out.size)
    have HQ1 : Hid (A.heap.size ≤ q1 ∧ q1 ≤ V1.heap.size) := by rw [← hq1]; exact ⟨hS0.out.size, hb1.out.size⟩
    go_wp2
    clear hv1 hq1 hb1
    refine hK1.out _ _ hS1.out ?_
    clear hK1
    intro _
    try simp only [Act.put, List.setIfInBounds_toArray, List.set_cons_zero, List.set_cons_succ]
    refine wpAnyH_ready (rs := [2, 4]) (by kernel_rfl) (by simp) (AllReadyH.cons (i := 2) (o := { dst := some 72, op := Op.call { callee := Callee.builtin Builtin.append, args := #[Operand.tmp 70, Operand.tmp 71], argTypes := #[22, 22] }, type := 22, pos := "law.go:105", after := #[{ on := 0, ground := Ground.data }, { on := 1, ground := Ground.data }], guard := none }) rfl ?_ (AllReadyH.cons (i := 4) (o := { dst := some 74, op := Op.buildSlice 22 1 #[(0, Operand.tmp 73)], type := 22, pos := "law.go:105", after := #[{ on := 3, ground := Ground.data }], guard := none }) rfl ?_ AllReadyH.nil))
    · intro K1 hK1
      obtain ⟨B2, hB2⟩ : ∃ B, V1.heap.size = B := ⟨_, rfl⟩
      refine step_append_bs (by rfl) 72 rfl (.tmp 70) (.tmp 71) 22 rfl V1 31 i0 _ 5 B2 Try.underlying22 HI0.out.1 HI0.out.2.1 HI0.out.2.2.1 HI0.out.2.2.2 rfl (by omega) (.slice (some ⟨q1, 0, none⟩) 0 0) 0 [] (.inl ⟨_, rfl, Rd.nil _ _ _ _, .inr ⟨q1, 0, rfl⟩⟩) a n cp (flat l) rfl rfl ((HL.out.below hS1.out (Nat.le_refl _))) (by rw [hB2]; exact Nat.le_refl _) (by have := HN.out; omega) ?_
      intro v2 V2 hb2 hw2
      have hw22 : Hid (Below V1.heap.size V1 V2) := by rw [hB2]; exact hw2.out
      have hS2 : Hid (Below A.heap.size A V2) := hS1.out.trans (hw22.out.mono hS1.out.size)
      have BS2 : Hid (Bs 31 5 B2 V2 v2 n (flat l)) := by have h := hb2.out; rw [Nat.zero_add, List.nil_append] at h; exact h
      have HBB2 : Hid (A.heap.size ≤ B2 ∧ B2 ≤ V2.heap.size) := by rw [← hB2]; exact ⟨hS1.out.size, hw22.out.size⟩
      clear hB2 hb2 hw2
      refine hK1.out _ _ hS2.out ?_
      clear hK1
      intro _
      try simp only [Act.put, List.setIfInBounds_toArray, List.set_cons_zero, List.set_cons_succ]
      refine wpAnyH_ready (rs := [4]) (by kernel_rfl) (by simp) (AllReadyH.cons (i := 4) (o := { dst := some 74, op := Op.buildSlice 22 1 #[(0, Operand.tmp 73)], type := 22, pos := "law.go:105", after := #[{ on := 3, ground := Ground.data }], guard := none }) rfl ?_ AllReadyH.nil)
      · intro K1 hK1
        rw [if_pos (by rfl)]
        obtain ⟨V3, hv3⟩ : ∃ V, V2.alloc (.cells #[.string r.who, .string r.ch, .string r.pre, iv r.right, .bool r.deny] 31) = V := ⟨_, rfl⟩
        obtain ⟨q3, hq3⟩ : ∃ q, V2.heap.size = q := ⟨_, rfl⟩
        have hb3 : Hid (Below V2.heap.size V2 V3) := by rw [← hv3]; exact below_al _ _
        have hS3 : Hid (Below A.heap.size A V3) := hS2.out.trans (hb3.out.mono hS2.out.size)
        have BS3 : Hid (Bs 31 5 B2 V3 v2 n (flat l)) := bs_below BS2.out hb3.out
        have RD3 : Hid (Rd V3 31 5 (some ⟨q3, 0, none⟩) 1 (flat [r])) := by rw [← hv3, ← hq3]; exact rd_one _ r
        have HBB3 : Hid (A.heap.size ≤ B2 ∧ B2 ≤ V3.heap.size) := ⟨HBB2.out.1, Nat.le_trans HBB2.out.2 hb3.out.size⟩
        go_wp2
        clear hv3 hq3 hb3
        refine hK1.out _ _ hS3.out ?_
        clear hK1
        intro _
        try simp only [Act.put, List.setIfInBounds_toArray, List.set_cons_zero, List.set_cons_succ]
        refine wpAnyH_ready (rs := [5]) (by kernel_rfl) (by simp) (AllReadyH.cons (i := 5) (o := { dst := some 75, op := Op.call { callee := Callee.builtin Builtin.append, args := #[Operand.tmp 72, Operand.tmp 74], argTypes := #[22, 22] }, type := 22, pos := "law.go:105", after := #[{ on := 2, ground := Ground.data }, { on := 4, ground := Ground.data }, { on := 2, ground := Ground.chain }], guard := none }) rfl ?_ AllReadyH.nil)
        · intro K1 hK1
          have hsz4 : B2 ≤ V3.heap.size := by have h1 := HBB3.out.2; have h2 := h1; omega
          refine step_append_bs (by rfl) 75 rfl (.tmp 72) (.tmp 74) 22 rfl V3 31 i0 _ 5 B2 Try.underlying22 HI0.out.1 HI0.out.2.1 HI0.out.2.2.1 HI0.out.2.2.2 rfl (by omega) v2 n (flat l) BS3.out (some ⟨q3, 0, none⟩) 1 1 (flat [r]) rfl rfl RD3.out hsz4 (by have := HN.out; omega) ?_
          intro v4 V4 hb4 hw4
          have hS4 : Hid (Below A.heap.size A V4) := hS3.out.trans (hw4.out.mono HBB3.out.1)
          obtain ⟨a4, c4, he4, RU4⟩ : ∃ a c, v4 = .slice a (n + 1) c ∧ Hid (RuS V4 a (n + 1) (l ++ [r])) := rus_of_bs (by have h := hb4.out; rw [← flat_app] at h; exact h) HSH.out
          subst he4
          clear hb4 hw4
          refine hK1.out _ _ hS4.out ?_
          clear hK1
          intro _
          try simp only [Act.put, List.setIfInBounds_toArray, List.set_cons_zero, List.set_cons_succ]
          refine wpAnyH_ready (rs := [7]) (by kernel_rfl) (by simp) (AllReadyH.cons (i := 7) (o := { dst := some 77, op := Op.call { callee := Callee.value (Operand.func 15), args := #[Operand.tmp 75, Operand.tmp 76], argTypes := #[22, 27] }, type := 4, pos := "law.go:105", after := #[{ on := 5, ground := Ground.data }, { on := 6, ground := Ground.data }, { on := 5, ground := Ground.chain }], guard := none }) rfl ?_ AllReadyH.nil)
          · intro K1 hK1
            rw [if_pos (by rfl)]
            have HC5 := (dec_eq HEQ.out (dec_is (l ++ [r]) a4 (n + 1) c4 k V4 RU4.out (by have := HN1.out; omega) (HK.out.below hS4.out)))
            go_wp2_with fail
            refine HC5.mono ?_
            rintro e V5 ⟨rfl, hb5⟩
            dsimp only
            clear HC5
            have hS5 : Hid (Below A.heap.size A V5) := hS4.out.trans (hb5.mono hS4.out.size)
            have RU5 : Hid (RuS V5 a4 (n + 1) (l ++ [r])) := RU4.out.below hb5
            clear hb5
            refine hK1.out _ _ hS5.out ?_
            clear hK1
            intro _
            try simp only [Act.put, List.setIfInBounds_toArray, List.set_cons_zero, List.set_cons_succ]
            refine wpAnyH_take (i := 10) (oi := { dst := some 80, op := Op.binOp BinOp.eql 4 (Operand.tmp 77) (Operand.tmp 79) 4, type := 4, pos := "law.go:105", after := #[{ on := 7, ground := Ground.data }, { on := 9, ground := Ground.data }], guard := none }) (v := .bool true) rfl (by kernel_rfl) (by kernel_rfl) (by kernel_rfl) (fun _ _ _ h => h.elim) (Or.inl ⟨by rfl, ?y4⟩) hS5.out ?_
            case y4 =>
              intro V hV
              go_simp
            simp only [Act.put, List.setIfInBounds_toArray, List.set_cons_zero, List.set_cons_succ]
            refine wpAnyH_take (i := 11) (oi := { dst := some 81, op := Op.move (Operand.tmp 80), type := 4, pos := "law.go:105", after := #[{ on := 10, ground := Ground.data }, { on := 7, ground := Ground.chain }], guard := none }) (v := .bool true) rfl (by kernel_rfl) (by kernel_rfl) (by kernel_rfl) (fun _ _ _ h => h.elim) (Or.inl ⟨by rfl, ?y5⟩) hS5.out ?_
            case y5 =>
              intro V hV
              go_simp
            simp only [Act.put, List.setIfInBounds_toArray, List.set_cons_zero, List.set_cons_succ]
            refine wpAnyH_ready (rs := [12]) (by kernel_rfl) (by simp) (AllReadyH.cons (i := 12) (o := { dst := some 82, op := Op.call { callee := Callee.value (Operand.func 10), args := #[], argTypes := #[] }, type := 4, pos := "law.go:105", after := #[{ on := 11, ground := Ground.chain }, { on := 11, ground := Ground.guard }], guard := some (11, true) }) rfl ?_ AllReadyH.nil)
            · intro K1 hK1
              rw [if_pos (by rfl)]
              have HC6 := lives_is V5
              go_wp2_with fail
              refine HC6.mono ?_
              rintro e V6 ⟨rfl, hb6⟩
              dsimp only
              clear HC6
              have hS6 : Hid (Below A.heap.size A V6) := hS5.out.trans (hb6.mono hS5.out.size)
              have RU6 : Hid (RuS V6 a4 (n + 1) (l ++ [r])) := RU5.out.below hb6
              clear hb6
              refine hK1.out _ _ hS6.out ?_
              clear hK1
              intro _
              try simp only [Act.put, List.setIfInBounds_toArray, List.set_cons_zero, List.set_cons_succ]
              refine wpAnyH_take (i := 13) (oi := { dst := some 83, op := Op.pick (Operand.tmp 81) (Operand.tmp 82) (Operand.const (Value.bool false)), type := 4, pos := "law.go:105", after := #[{ on := 11, ground := Ground.data }, { on := 12, ground := Ground.data }], guard := none }) (v := .bool true) rfl (by kernel_rfl) (by kernel_rfl) (by kernel_rfl) (fun _ _ _ h => h.elim) (Or.inl ⟨by rfl, ?y6⟩) hS6.out ?_
              case y6 =>
                intro V hV
                go_simp
              simp only [Act.put, List.setIfInBounds_toArray, List.set_cons_zero, List.set_cons_succ]
              refine wpAnyH_take (i := 14) (oi := { dst := some 6, op := Op.assign (Operand.tmp 83), type := 4, pos := "law.go:105", after := #[{ on := 13, ground := Ground.data }, { on := 12, ground := Ground.chain }, { on := 0, ground := Ground.phase }, { on := 1, ground := Ground.phase }, { on := 2, ground := Ground.phase }, { on := 3, ground := Ground.phase }, { on := 4, ground := Ground.phase }, { on := 5, ground := Ground.phase }, { on := 6, ground := Ground.phase }, { on := 7, ground := Ground.phase }, { on := 8, ground := Ground.phase }, { on := 9, ground := Ground.phase }, { on := 10, ground := Ground.phase }, { on := 11, ground := Ground.phase }, { on := 12, ground := Ground.phase }, { on := 13, ground := Ground.phase }], guard := none }) (v := .bool true) rfl (by kernel_rfl) (by kernel_rfl) (by kernel_rfl) (fun _ _ _ h => h.elim) (Or.inl ⟨by rfl, ?y7⟩) hS6.out ?_
              case y7 =>
                intro V hV
                go_simp
              simp only [Act.put, List.setIfInBounds_toArray, List.set_cons_zero, List.set_cons_succ]
              refine wpAnyH_done (by kernel_rfl) ?_ _
              exact hQ _ _ _ _ _ _ hS6.out
    · intro K1 hK1
      rw [if_pos (by rfl)]
      obtain ⟨V2, hv2⟩ : ∃ V, V1.alloc (.cells #[.string r.who, .string r.ch, .string r.pre, iv r.right, .bool r.deny] 31) = V := ⟨_, rfl⟩
      obtain ⟨q2, hq2⟩ : ∃ q, V1.heap.size = q := ⟨_, rfl⟩
      have hb2 : Hid (Below V1.heap.size V1 V2) := by rw [← hv2]; exact below_al _ _
      have hS2 : Hid (Below A.heap.size A V2) := hS1.out.trans (hb2.out.mono hS1.out.size)
      have RD2 : Hid (Rd V2 31 5 (some ⟨q2, 0, none⟩) 1 (flat [r])) := by rw [← hv2, ← hq2]; exact rd_one _ r
      go_wp2
      clear hv2 hq2 hb2
      refine hK1.out _ _ hS2.out ?_
      clear hK1
      intro _
      try simp only [Act.put, List.setIfInBounds_toArray, List.set_cons_zero, List.set_cons_succ]
      refine wpAnyH_ready (rs := [2]) (by kernel_rfl) (by simp) (AllReadyH.cons (i := 2) (o := { dst := some 72, op := Op.call { callee := Callee.builtin Builtin.append, args := #[Operand.tmp 70, Operand.tmp 71], argTypes := #[22, 22] }, type := 22, pos := "law.go:105", after := #[{ on := 0, ground := Ground.data }, { on := 1, ground := Ground.data }], guard := none }) rfl ?_ AllReadyH.nil)
      · intro K1 hK1
        obtain ⟨B3, hB3⟩ : ∃ B, V2.heap.size = B := ⟨_, rfl⟩
        refine step_append_bs (by rfl) 72 rfl (.tmp 70) (.tmp 71) 22 rfl V2 31 i0 _ 5 B3 Try.underlying22 HI0.out.1 HI0.out.2.1 HI0.out.2.2.1 HI0.out.2.2.2 rfl (by omega) (.slice (some ⟨q1, 0, none⟩) 0 0) 0 [] (.inl ⟨_, rfl, Rd.nil _ _ _ _, .inr ⟨q1, 0, rfl⟩⟩) a n cp (flat l) rfl rfl ((HL.out.below hS2.out (Nat.le_refl _))) (by rw [hB3]; exact Nat.le_refl _) (by have := HN.out; omega) ?_
        intro v3 V3 hb3 hw3
        have hw32 : Hid (Below V2.heap.size V2 V3) := by rw [hB3]; exact hw3.out
        have hS3 : Hid (Below A.heap.size A V3) := hS2.out.trans (hw32.out.mono hS2.out.size)
        have RD3 : Hid (Rd V3 31 5 (some ⟨q2, 0, none⟩) 1 (flat [r])) := RD2.out.below hw32.out (Nat.le_refl _)
        have BS3 : Hid (Bs 31 5 B3 V3 v3 n (flat l)) := by have h := hb3.out; rw [Nat.zero_add, List.nil_append] at h; exact h
        have HBB3 : Hid (A.heap.size ≤ B3 ∧ B3 ≤ V3.heap.size) := by rw [← hB3]; exact ⟨hS2.out.size, hw32.out.size⟩
        clear hB3 hb3 hw3
        refine hK1.out _ _ hS3.out ?_
        clear hK1
        intro _
        try simp only [Act.put, List.setIfInBounds_toArray, List.set_cons_zero, List.set_cons_succ]
        refine wpAnyH_ready (rs := [5]) (by kernel_rfl) (by simp) (AllReadyH.cons (i := 5) (o := { dst := some 75, op := Op.call { callee := Callee.builtin Builtin.append, args := #[Operand.tmp 72, Operand.tmp 74], argTypes := #[22, 22] }, type := 22, pos := "law.go:105", after := #[{ on := 2, ground := Ground.data }, { on := 4, ground := Ground.data }, { on := 2, ground := Ground.chain }], guard := none }) rfl ?_ AllReadyH.nil)
        · intro K1 hK1
          have hsz4 : B3 ≤ V3.heap.size := by have h1 := HBB3.out.2; have h2 := h1; omega
          refine step_append_bs (by rfl) 75 rfl (.tmp 72) (.tmp 74) 22 rfl V3 31 i0 _ 5 B3 Try.underlying22 HI0.out.1 HI0.out.2.1 HI0.out.2.2.1 HI0.out.2.2.2 rfl (by omega) v3 n (flat l) BS3.out (some ⟨q2, 0, none⟩) 1 1 (flat [r]) rfl rfl RD3.out hsz4 (by have := HN.out; omega) ?_
          intro v4 V4 hb4 hw4
          have hS4 : Hid (Below A.heap.size A V4) := hS3.out.trans (hw4.out.mono HBB3.out.1)
          obtain ⟨a4, c4, he4, RU4⟩ : ∃ a c, v4 = .slice a (n + 1) c ∧ Hid (RuS V4 a (n + 1) (l ++ [r])) := rus_of_bs (by have h := hb4.out; rw [← flat_app] at h; exact h) HSH.out
          subst he4
          clear hb4 hw4
          refine hK1.out _ _ hS4.out ?_
          clear hK1
          intro _
          try simp only [Act.put, List.setIfInBounds_toArray, List.set_cons_zero, List.set_cons_succ]
          refine wpAnyH_ready (rs := [7]) (by kernel_rfl) (by simp) (AllReadyH.cons (i := 7) (o := { dst := some 77, op := Op.call { callee := Callee.value (Operand.func 15), args := #[Operand.tmp 75, Operand.tmp 76], argTypes := #[22, 27] }, type := 4, pos := "law.go:105", after := #[{ on := 5, ground := Ground.data }, { on := 6, ground := Ground.data }, { on := 5, ground := Ground.chain }], guard := none }) rfl ?_ AllReadyH.nil)
          · intro K1 hK1
            rw [if_pos (by rfl)]
            have HC5 := (dec_eq HEQ.out (dec_is (l ++ [r]) a4 (n + 1) c4 k V4 RU4.out (by have := HN1.out; omega) (HK.out.below hS4.out)))
            go_wp2_with fail
            refine HC5.mono ?_
            rintro e V5 ⟨rfl, hb5⟩
            dsimp only
            clear HC5
            have hS5 : Hid (Below A.heap.size A V5) := hS4.out.trans (hb5.mono hS4.out.size)
            have RU5 : Hid (RuS V5 a4 (n + 1) (l ++ [r])) := RU4.out.below hb5
            clear hb5
            refine hK1.out _ _ hS5.out ?_
            clear hK1
            intro _
            try simp only [Act.put, List.setIfInBounds_toArray, List.set_cons_zero, List.set_cons_succ]
            refine wpAnyH_take (i := 10) (oi := { dst := some 80, op := Op.binOp BinOp.eql 4 (Operand.tmp 77) (Operand.tmp 79) 4, type := 4, pos := "law.go:105", after := #[{ on := 7, ground := Ground.data }, { on := 9, ground := Ground.data }], guard := none }) (v := .bool true) rfl (by kernel_rfl) (by kernel_rfl) (by kernel_rfl) (fun _ _ _ h => h.elim) (Or.inl ⟨by rfl, ?y8⟩) hS5.out ?_
            case y8 =>
              intro V hV
              go_simp
            simp only [Act.put, List.setIfInBounds_toArray, List.set_cons_zero, List.set_cons_succ]
            refine wpAnyH_take (i := 11) (oi := { dst := some 81, op := Op.move (Operand.tmp 80), type := 4, pos := "law.go:105", after := #[{ on := 10, ground := Ground.data }, { on := 7, ground := Ground.chain }], guard := none }) (v := .bool true) rfl (by kernel_rfl) (by kernel_rfl) (by kernel_rfl) (fun _ _ _ h => h.elim) (Or.inl ⟨by rfl, ?y9⟩) hS5.out ?_
            case y9 =>
              intro V hV
              go_simp
            simp only [Act.put, List.setIfInBounds_toArray, List.set_cons_zero, List.set_cons_succ]
            refine wpAnyH_ready (rs := [12]) (by kernel_rfl) (by simp) (AllReadyH.cons (i := 12) (o := { dst := some 82, op := Op.call { callee := Callee.value (Operand.func 10), args := #[], argTypes := #[] }, type := 4, pos := "law.go:105", after := #[{ on := 11, ground := Ground.chain }, { on := 11, ground := Ground.guard }], guard := some (11, true) }) rfl ?_ AllReadyH.nil)
            · intro K1 hK1
              rw [if_pos (by rfl)]
              have HC6 := lives_is V5
              go_wp2_with fail
              refine HC6.mono ?_
              rintro e V6 ⟨rfl, hb6⟩
              dsimp only
              clear HC6
              have hS6 : Hid (Below A.heap.size A V6) := hS5.out.trans (hb6.mono hS5.out.size)
              have RU6 : Hid (RuS V6 a4 (n + 1) (l ++ [r])) := RU5.out.below hb6
              clear hb6
              refine hK1.out _ _ hS6.out ?_
              clear hK1
              intro _
              try simp only [Act.put, List.setIfInBounds_toArray, List.set_cons_zero, List.set_cons_succ]
              refine wpAnyH_take (i := 13) (oi := { dst := some 83, op := Op.pick (Operand.tmp 81) (Operand.tmp 82) (Operand.const (Value.bool false)), type := 4, pos := "law.go:105", after := #[{ on := 11, ground := Ground.data }, { on := 12, ground := Ground.data }], guard := none }) (v := .bool true) rfl (by kernel_rfl) (by kernel_rfl) (by kernel_rfl) (fun _ _ _ h => h.elim) (Or.inl ⟨by rfl, ?y10⟩) hS6.out ?_
              case y10 =>
                intro V hV
                go_simp
              simp only [Act.put, List.setIfInBounds_toArray, List.set_cons_zero, List.set_cons_succ]
              refine wpAnyH_take (i := 14) (oi := { dst := some 6, op := Op.assign (Operand.tmp 83), type := 4, pos := "law.go:105", after := #[{ on := 13, ground := Ground.data }, { on := 12, ground := Ground.chain }, { on := 0, ground := Ground.phase }, { on := 1, ground := Ground.phase }, { on := 2, ground := Ground.phase }, { on := 3, ground := Ground.phase }, { on := 4, ground := Ground.phase }, { on := 5, ground := Ground.phase }, { on := 6, ground := Ground.phase }, { on := 7, ground := Ground.phase }, { on := 8, ground := Ground.phase }, { on := 9, ground := Ground.phase }, { on := 10, ground := Ground.phase }, { on := 11, ground := Ground.phase }, { on := 12, ground := Ground.phase }, { on := 13, ground := Ground.phase }], guard := none }) (v := .bool true) rfl (by kernel_rfl) (by kernel_rfl) (by kernel_rfl) (fun _ _ _ h => h.elim) (Or.inl ⟨by rfl, ?y11⟩) hS6.out ?_
              case y11 =>
                intro V hV
                go_simp
              simp only [Act.put, List.setIfInBounds_toArray, List.set_cons_zero, List.set_cons_succ]
              refine wpAnyH_done (by kernel_rfl) ?_ _
              exact hQ _ _ _ _ _ _ hS6.out
  · intro K1 hK1
    rw [if_pos (by rfl)]
    obtain ⟨V1, hv1⟩ : ∃ V, V0.alloc (.cells #[.string r.who, .string r.ch, .string r.pre, iv r.right, .bool r.deny] 31) = V := ⟨_, rfl⟩
    obtain ⟨q1, hq1⟩ : ∃ q, V0.heap.size = q := ⟨_, rfl⟩
    have hb1 : Hid (Below V0.heap.size V0 V1) := by rw [← hv1]; exact below_al _ _
    have hS1 : Hid (Below A.heap.size A V1) := hS0.out.trans (hb1.out.mono hS0.out.size)
    have RD1 : Hid (Rd V1 31 5 (some ⟨q1, 0, none⟩) 1 (flat [r])) := by rw [← hv1, ← hq1]; exact rd_one _ r
    go_wp2
    clear hv1 hq1 hb1
    refine hK1.out _ _ hS1.out ?_
    clear hK1
    intro _
    try simp only [Act.put, List.setIfInBounds_toArray, List.set_cons_zero, List.set_cons_succ]
    refine wpAnyH_ready (rs := [0]) (by kernel_rfl) (by simp) (AllReadyH.cons (i := 0) (o := { dst := some 70, op := Op.buildSlice 22 0 #[], type := 22, pos := "law.go:105", after := #[], guard := none }) rfl ?_ AllReadyH.nil)
    · intro K1 hK1
      rw [if_pos (by rfl)]
      obtain ⟨V2, hv2⟩ : ∃ V, V1.alloc (.cells #[] 31) = V := ⟨_, rfl⟩
      obtain ⟨q2, hq2⟩ : ∃ q, V1.heap.size = q := ⟨_, rfl⟩
      have hb2 : Hid (Below V1.heap.size V1 V2) := by rw [← hv2]; exact below_al _ _
      have hS2 : Hid (Below A.heap.size A V2) := hS1.out.trans (hb2.out.mono hS1.out.size)
      have RD2 : Hid (Rd V2 31 5 (some ⟨q1, 0, none⟩) 1 (flat [r])) := RD1.out.below hb2.out (Nat.le_refl _)
      have HQ2 : Hid (A.heap.size ≤ q2 ∧ q2 ≤ V2.heap.size) := by rw [← hq2]; exact ⟨hS1.out.size, hb2.out.size⟩
      go_wp2
      clear hv2 hq2 hb2
      refine hK1.out _ _ hS2.out ?_
      clear hK1
      intro _
      try simp only [Act.put, List.setIfInBounds_toArray, List.set_cons_zero, List.set_cons_succ]
      refine wpAnyH_ready (rs := [2]) (by kernel_rfl) (by simp) (AllReadyH.cons (i := 2) (o := { dst := some 72, op := Op.call { callee := Callee.builtin Builtin.append, args := #[Operand.tmp 70, Operand.tmp 71], argTypes := #[22, 22] }, type := 22, pos := "law.go:105", after := #[{ on := 0, ground := Ground.data }, { on := 1, ground := Ground.data }], guard := none }) rfl ?_ AllReadyH.nil)
      · intro K1 hK1
        obtain ⟨B3, hB3⟩ : ∃ B, V2.heap.size = B := ⟨_, rfl⟩
        refine step_append_bs (by rfl) 72 rfl (.tmp 70) (.tmp 71) 22 rfl V2 31 i0 _ 5 B3 Try.underlying22 HI0.out.1 HI0.out.2.1 HI0.out.2.2.1 HI0.out.2.2.2 rfl (by omega) (.slice (some ⟨q2, 0, none⟩) 0 0) 0 [] (.inl ⟨_, rfl, Rd.nil _ _ _ _, .inr ⟨q2, 0, rfl⟩⟩) a n cp (flat l) rfl rfl ((HL.out.below hS2.out (Nat.le_refl _))) (by rw [hB3]; exact Nat.le_refl _) (by have := HN.out; omega) ?_
        intro v3 V3 hb3 hw3
        have hw32 : Hid (Below V2.heap.size V2 V3) := by rw [hB3]; exact hw3.out
        have hS3 : Hid (Below A.heap.size A V3) := hS2.out.trans (hw32.out.mono hS2.out.size)
        have RD3 : Hid (Rd V3 31 5 (some ⟨q1, 0, none⟩) 1 (flat [r])) := RD2.out.below hw32.out (Nat.le_refl _)
        have BS3 : Hid (Bs 31 5 B3 V3 v3 n (flat l)) := by have h := hb3.out; rw [Nat.zero_add, List.nil_append] at h; exact h
        have HBB3 : Hid (A.heap.size ≤ B3 ∧ B3 ≤ V3.heap.size) := by rw [← hB3]; exact ⟨hS2.out.size, hw32.out.size⟩
        clear hB3 hb3 hw3
        refine hK1.out _ _ hS3.out ?_
        clear hK1
        intro _
        try simp only [Act.put, List.setIfInBounds_toArray, List.set_cons_zero, List.set_cons_succ]
        refine wpAnyH_ready (rs := [5]) (by kernel_rfl) (by simp) (AllReadyH.cons (i := 5) (o := { dst := some 75, op := Op.call { callee := Callee.builtin Builtin.append, args := #[Operand.tmp 72, Operand.tmp 74], argTypes := #[22, 22] }, type := 22, pos := "law.go:105", after := #[{ on := 2, ground := Ground.data }, { on := 4, ground := Ground.data }, { on := 2, ground := Ground.chain }], guard := none }) rfl ?_ AllReadyH.nil)
        · intro K1 hK1
          have hsz4 : B3 ≤ V3.heap.size := by have h1 := HBB3.out.2; have h2 := h1; omega
          refine step_append_bs (by rfl) 75 rfl (.tmp 72) (.tmp 74) 22 rfl V3 31 i0 _ 5 B3 Try.underlying22 HI0.out.1 HI0.out.2.1 HI0.out.2.2.1 HI0.out.2.2.2 rfl (by omega) v3 n (flat l) BS3.out (some ⟨q1, 0, none⟩) 1 1 (flat [r]) rfl rfl RD3.out hsz4 (by have := HN.out; omega) ?_
          intro v4 V4 hb4 hw4
          have hS4 : Hid (Below A.heap.size A V4) := hS3.out.trans (hw4.out.mono HBB3.out.1)
          obtain ⟨a4, c4, he4, RU4⟩ : ∃ a c, v4 = .slice a (n + 1) c ∧ Hid (RuS V4 a (n + 1) (l ++ [r])) := rus_of_bs (by have h := hb4.out; rw [← flat_app] at h; exact h) HSH.out
          subst he4
          clear hb4 hw4
          refine hK1.out _ _ hS4.out ?_
          clear hK1
          intro _
          try simp only [Act.put, List.setIfInBounds_toArray, List.set_cons_zero, List.set_cons_succ]
          refine wpAnyH_ready (rs := [7]) (by kernel_rfl) (by simp) (AllReadyH.cons (i := 7) (o := { dst := some 77, op := Op.call { callee := Callee.value (Operand.func 15), args := #[Operand.tmp 75, Operand.tmp 76], argTypes := #[22, 27] }, type := 4, pos := "law.go:105", after := #[{ on := 5, ground := Ground.data }, { on := 6, ground := Ground.data }, { on := 5, ground := Ground.chain }], guard := none }) rfl ?_ AllReadyH.nil)
          · intro K1 hK1
            rw [if_pos (by rfl)]
            have HC5 := (dec_eq HEQ.out (dec_is (l ++ [r]) a4 (n + 1) c4 k V4 RU4.out (by have := HN1.out; omega) (HK.out.below hS4.out)))
            go_wp2_with fail
            refine HC5.mono ?_
            rintro e V5 ⟨rfl, hb5⟩
            dsimp only
            clear HC5
            have hS5 : Hid (Below A.heap.size A V5) := hS4.out.trans (hb5.mono hS4.out.size)
            have RU5 : Hid (RuS V5 a4 (n + 1) (l ++ [r])) := RU4.out.below hb5
            clear hb5
            refine hK1.out _ _ hS5.out ?_
            clear hK1
            intro _
            try simp only [Act.put, List.setIfInBounds_toArray, List.set_cons_zero, List.set_cons_succ]
            refine wpAnyH_take (i := 10) (oi := { dst := some 80, op := Op.binOp BinOp.eql 4 (Operand.tmp 77) (Operand.tmp 79) 4, type := 4, pos := "law.go:105", after := #[{ on := 7, ground := Ground.data }, { on := 9, ground := Ground.data }], guard := none }) (v := .bool true) rfl (by kernel_rfl) (by kernel_rfl) (by kernel_rfl) (fun _ _ _ h => h.elim) (Or.inl ⟨by rfl, ?y12⟩) hS5.out ?_
            case y12 =>
              intro V hV
              go_simp
            simp only [Act.put, List.setIfInBounds_toArray, List.set_cons_zero, List.set_cons_succ]
            refine wpAnyH_take (i := 11) (oi := { dst := some 81, op := Op.move (Operand.tmp 80), type := 4, pos := "law.go:105", after := #[{ on := 10, ground := Ground.data }, { on := 7, ground := Ground.chain }], guard := none }) (v := .bool true) rfl (by kernel_rfl) (by kernel_rfl) (by kernel_rfl) (fun _ _ _ h => h.elim) (Or.inl ⟨by rfl, ?y13⟩) hS5.out ?_
            case y13 =>
              intro V hV
              go_simp
            simp only [Act.put, List.setIfInBounds_toArray, List.set_cons_zero, List.set_cons_succ]
            refine wpAnyH_ready (rs := [12]) (by kernel_rfl) (by simp) (AllReadyH.cons (i := 12) (o := { dst := some 82, op := Op.call { callee := Callee.value (Operand.func 10), args := #[], argTypes := #[] }, type := 4, pos := "law.go:105", after := #[{ on := 11, ground := Ground.chain }, { on := 11, ground := Ground.guard }], guard := some (11, true) }) rfl ?_ AllReadyH.nil)
            · intro K1 hK1
              rw [if_pos (by rfl)]
              have HC6 := lives_is V5
              go_wp2_with fail
              refine HC6.mono ?_
              rintro e V6 ⟨rfl, hb6⟩
              dsimp only
              clear HC6
              have hS6 : Hid (Below A.heap.size A V6) := hS5.out.trans (hb6.mono hS5.out.size)
              have RU6 : Hid (RuS V6 a4 (n + 1) (l ++ [r])) := RU5.out.below hb6
              clear hb6
              refine hK1.out _ _ hS6.out ?_
              clear hK1
              intro _
              try simp only [Act.put, List.setIfInBounds_toArray, List.set_cons_zero, List.set_cons_succ]
              refine wpAnyH_take (i := 13) (oi := { dst := some 83, op := Op.pick (Operand.tmp 81) (Operand.tmp 82) (Operand.const (Value.bool false)), type := 4, pos := "law.go:105", after := #[{ on := 11, ground := Ground.data }, { on := 12, ground := Ground.data }], guard := none }) (v := .bool true) rfl (by kernel_rfl) (by kernel_rfl) (by kernel_rfl) (fun _ _ _ h => h.elim) (Or.inl ⟨by rfl, ?y14⟩) hS6.out ?_
              case y14 =>
                intro V hV
                go_simp
              simp only [Act.put, List.setIfInBounds_toArray, List.set_cons_zero, List.set_cons_succ]
              refine wpAnyH_take (i := 14) (oi := { dst := some 6, op := Op.assign (Operand.tmp 83), type := 4, pos := "law.go:105", after := #[{ on := 13, ground := Ground.data }, { on := 12, ground := Ground.chain }, { on := 0, ground := Ground.phase }, { on := 1, ground := Ground.phase }, { on := 2, ground := Ground.phase }, { on := 3, ground := Ground.phase }, { on := 4, ground := Ground.phase }, { on := 5, ground := Ground.phase }, { on := 6, ground := Ground.phase }, { on := 7, ground := Ground.phase }, { on := 8, ground := Ground.phase }, { on := 9, ground := Ground.phase }, { on := 10, ground := Ground.phase }, { on := 11, ground := Ground.phase }, { on := 12, ground := Ground.phase }, { on := 13, ground := Ground.phase }], guard := none }) (v := .bool true) rfl (by kernel_rfl) (by kernel_rfl) (by kernel_rfl) (fun _ _ _ h => h.elim) (Or.inl ⟨by rfl, ?y15⟩) hS6.out ?_
              case y15 =>
                intro V hV
                go_simp
              simp only [Act.put, List.setIfInBounds_toArray, List.set_cons_zero, List.set_cons_succ]
              refine wpAnyH_done (by kernel_rfl) ?_ _
              exact hQ _ _ _ _ _ _ hS6.out
#print axioms near_dec
end Go.Proofs.Ytngkajeghmogmaa.Oct
