/-
  Layer 17 (acl): AclDecides.
-/
import Derived.Test.YtngkajeghmogmaaReg3
namespace Go.Proofs.Ytngkajeghmogmaa.Oct
open Go.RowKit Go.Shelf

theorem info31b : ∃ i, Try.prog.info? 31 = some i ∧ i.zero = some (.agg #[.string ⟨#[]⟩, .string ⟨#[]⟩, .string ⟨#[]⟩, .int .i64 0, .bool false]) ∧ i.size = 5 ∧ ∀ m, m ≤ 2199023255552 → (m + m / 4 + 192) * i.bytes ≤ 281474976710656 := by
  obtain ⟨i, h1, h2, h3, h4⟩ := info31
  refine ⟨i, h1, h2, h3, fun m hm => ?_⟩
  refine Nat.le_trans (Nat.mul_le_mul_left _ h4) ?_
  omega
theorem info9b : ∃ i, Try.prog.info? 9 = some i ∧ i.zero = some (.string ⟨#[]⟩) ∧ i.size = 1 ∧ ∀ m, m ≤ 8796093022208 → (m + m / 4 + 192) * i.bytes ≤ 281474976710656 := by
  obtain ⟨i, h1, h2, h3, h4⟩ := info_parts info9
  refine ⟨i, h1, h2, h3, fun m hm => ?_⟩
  rw [h4]
  omega
theorem Strs.same {w w' : World} {a : Option Addr} {n : Nat} {l : List BA} (h : Strs w a n l) (hz : w.heap.size ≤ w'.heap.size) (hs : 0 < n → ∀ g off, a = some ⟨g, off, none⟩ → w'.heap[g]? = w.heap[g]?) : Strs w' a n l := by
  refine ⟨h.1, fun hp => ?_⟩
  obtain ⟨b, off, e1, e2, e3⟩ := h.2 hp
  exact ⟨b, off, e1, Nat.lt_of_lt_of_le e2 hz, fun i x hx => (World.cell?_of_block (a := ⟨b, off + i, none⟩) (hs hp b off e1)).trans (e3 i x hx)⟩
theorem RuS.same {w w' : World} {a : Option Addr} {n : Nat} {l : List Ru} (h : RuS w a n l) (hz : w.heap.size ≤ w'.heap.size) (hs : 0 < n → ∀ g off, a = some ⟨g, off, none⟩ → w'.heap[g]? = w.heap[g]?) : RuS w' a n l := by
  refine ⟨h.1, h.2.1, fun hp => ?_⟩
  obtain ⟨b, off, e1, e2, e3⟩ := h.2.2 hp
  exact ⟨b, off, e1, Nat.lt_of_lt_of_le e2 hz, fun i r hr => rangeAt_same (e3 i r hr) (hs hp b off e1)⟩
set_option maxRecDepth 100000 in
set_option maxHeartbeats 4000000 in
theorem decides_law (l : List Ru) (a : Option Addr) (n cp : Nat) (k : Ak) (w : World) (hl : RuS w a n l) (hn : n + 1 ≤ 2199023255551) (hk : k.at w) (hw : k.wide) :
    Calls Try.prog 3 #[.slice a n cp, av k] w fun e w' => e = .returned (.bool true) ∧ Below w.heap.size w w' := by
  obtain ⟨W1, hW1⟩ : ∃ W1, w.alloc (.cells #[.string k.s.user, .slice k.s.ta k.s.tn k.s.tc, iv k.s.role, .string k.ch, .string k.path, iv k.right] 27) = W1 := ⟨_, rfl⟩
  obtain ⟨g5, hg5⟩ : ∃ g, w.heap.size = g := ⟨_, rfl⟩
  have K1 : Hid (Kp w g5 27 [.string k.s.user, .slice k.s.ta k.s.tn k.s.tc, iv k.s.role, .string k.ch, .string k.path, iv k.right] W1) := by rw [← hW1, ← hg5]; exact Kp.new w _ 27
  have HL0 : Hid (RuS w a n l ∧ k.at w ∧ k.wide ∧ w.heap.size = g5) := ⟨hl, hk, hw, hg5⟩
  have HL1 : Hid (RuS W1 a n l ∧ k.at W1) := ⟨hl.below K1.out.1, hk.below K1.out.1⟩
  have HN : Hid (n ≤ 2199023255551) := by show _ ≤ _; omega
  have qn : (n : Int) ≤ 2199023255551 := by omega
  have HLT := light_is l a n cp k W1 HL1.out.1 (by omega) HL1.out.2
  have a0 : W1.cell? ⟨g5, 0, none⟩ = some (.string k.s.user) := K1.out.2.cell rfl
  have a1 : W1.cell? ⟨g5, 1, none⟩ = some (.slice k.s.ta k.s.tn k.s.tc) := K1.out.2.cell rfl
  have a2 : W1.cell? ⟨g5, 2, none⟩ = some (iv k.s.role) := K1.out.2.cell rfl
  have a3 : W1.cell? ⟨g5, 3, none⟩ = some (.string k.ch) := K1.out.2.cell rfl
  have a4 : W1.cell? ⟨g5, 4, none⟩ = some (.string k.path) := K1.out.2.cell rfl
  have a5 : W1.cell? ⟨g5, 5, none⟩ = some (iv k.right) := K1.out.2.cell rfl
  clear hl hn hk hw
  go_enter Try.func3, Try.ntmps3
  go_wp2_with fail
  refine HLT.mono ?_
  rintro e V ⟨b, rfl, hb⟩
  have HV : Hid (Below W1.heap.size W1 V ∧ Below w.heap.size w V) := ⟨hb, K1.out.1.trans (hb.mono K1.out.1.size)⟩
  clear HLT hb a0 a1 a2 a3 a4 a5 hW1 hg5
  cases b
  · have HL := lives_st HV.out.2
    go_wp2_with (go_at_call 10; refine HL.mono ?_; rintro e w2 ⟨rfl, hb⟩)
    go_ret
    exact ⟨rfl, hb⟩
  obtain ⟨i0, hi0, hz0, hz1, hz2⟩ := info31b
  have HI0 : Hid (Try.prog.info? 31 = some i0 ∧ i0.zero = some (.agg #[.string ⟨#[]⟩, .string ⟨#[]⟩, .string ⟨#[]⟩, .int .i64 0, .bool false]) ∧ i0.size = 5 ∧ ∀ m, m ≤ 2199023255552 → (m + m / 4 + 192) * i0.bytes ≤ 281474976710656) := ⟨hi0, hz0, hz1, hz2⟩
  clear hi0 hz0 hz1 hz2
  obtain ⟨i9, hi0, hz0, hz1, hz2⟩ := info9b
  have HI9 : Hid (Try.prog.info? 9 = some i9 ∧ i9.zero = some (.string ⟨#[]⟩) ∧ i9.size = 1 ∧ ∀ m, m ≤ 8796093022208 → (m + m / 4 + 192) * i9.bytes ≤ 281474976710656) := ⟨hi0, hz0, hz1, hz2⟩
  clear hi0 hz0 hz1 hz2
  go_wp2_with (with_reducible change wpList _ _ _ ({ dst := some 15, op := _, type := _, pos := _, after := _, guard := _ } :: _) _ _; refine Hid.out ?_)
  show wpList _ _ _ _ _ _
  obtain ⟨V2, hV2⟩ : ∃ V2, V.alloc (.cells #[] 31) = V2 := ⟨_, rfl⟩
  obtain ⟨g6, hg6⟩ : ∃ g, V.heap.size = g := ⟨_, rfl⟩
  have HV2 : Hid (Below W1.heap.size W1 V2 ∧ Below w.heap.size w V2) := by
    rw [← hV2]
    exact ⟨HV.out.1.trans ((below_al V _).mono HV.out.1.size), HV.out.2.trans ((below_al V _).mono HV.out.2.size)⟩
  rw [hV2, hg6]
  refine wpList_append_ss rfl (.tmp 13) (.tmp 14) 22 rfl V2 31 i0 _ 5 V2.heap.size Try.underlying22 HI0.out.1 HI0.out.2.1 HI0.out.2.2.1 2199023255552 (by omega) HI0.out.2.2.2 rfl (by omega) (.slice (some ⟨g6, 0, none⟩) 0 0) 0 [] (.inl ⟨_, rfl, Rd.nil _ _ _ _, .inr ⟨g6, 0, rfl⟩⟩) a n cp (flat l) rfl rfl ((HL1.out.1.below HV2.out.1).rd) (Nat.le_refl _) (by have := HN.out; omega) ?_
  intro a3 c3 V3 hr3 hg3 hb3
  rw [Nat.zero_add] at *
  have HV3 : Hid (Below W1.heap.size W1 V3 ∧ Below w.heap.size w V3 ∧ RuS V3 a3 n l ∧ (0 < n → ∃ g off, a3 = some ⟨g, off, none⟩ ∧ g5 < g)) := by
    have h1 : Below W1.heap.size W1 V3 := HV2.out.1.trans (hb3.out.mono HV2.out.1.size)
    refine ⟨h1, HV2.out.2.trans (hb3.out.mono HV2.out.2.size), RuS.of hr3.out HL1.out.1.2.1, fun hp => ?_⟩
    obtain ⟨g, off, e1, e2⟩ := hg3.out hp
    refine ⟨g, off, e1, ?_⟩
    have := K1.out.2.lt
    have := HV2.out.1.size
    omega
  clear hr3 hg3 hb3 hV2 hg6
  obtain ⟨V4, hV4⟩ : ∃ V4, V3.alloc (.cells #[] 9) = V4 := ⟨_, rfl⟩
  obtain ⟨g7, hg7⟩ : ∃ g, V3.heap.size = g := ⟨_, rfl⟩
  have HV4 : Hid (Below W1.heap.size W1 V4 ∧ Below V3.heap.size V3 V4) := by
    rw [← hV4]
    exact ⟨HV3.out.1.trans ((below_al V3 _).mono HV3.out.1.size), below_al V3 _⟩
  have KA := K1.out.2.below HV4.out.1 K1.out.2.lt
  have a1 : V4.cell? ⟨g5, 1, none⟩ = some (.slice k.s.ta k.s.tn k.s.tc) := KA.cell rfl
  clear KA
  go_wp2_with (with_reducible change wpList _ _ _ ({ dst := some 20, op := _, type := _, pos := _, after := _, guard := _ } :: _) _ _; refine Hid.out ?_)
  show wpList _ _ _ _ _ _
  refine wpList_append_ss rfl (.tmp 16) (.tmp 19) 23 rfl V4 9 i9 _ 1 V4.heap.size Try.underlying23 HI9.out.1 HI9.out.2.1 HI9.out.2.2.1 8796093022208 (by omega) HI9.out.2.2.2 rfl (by omega) (.slice (some ⟨g7, 0, none⟩) 0 0) 0 [] (.inl ⟨_, rfl, Rd.nil _ _ _ _, .inr ⟨g7, 0, rfl⟩⟩) k.s.ta k.s.tn k.s.tc (fs k.s.teams) rfl rfl ((HL1.out.2.below HV4.out.1).1.1.rd) (Nat.le_refl _) (by have := HL0.out.2.2.1.1; omega) ?_
  intro a6 c6 V5 hr6 hg6 hb6
  rw [Nat.zero_add] at *
  have HV5 : Hid (Below W1.heap.size W1 V5 ∧ Below V3.heap.size V3 V5 ∧ Strs V5 a6 k.s.tn k.s.teams ∧ (0 < k.s.tn → ∃ g off, a6 = some ⟨g, off, none⟩ ∧ g5 < g)) := by
    have h1 : Below W1.heap.size W1 V5 := HV4.out.1.trans (hb6.out.mono HV4.out.1.size)
    refine ⟨h1, HV4.out.2.trans (hb6.out.mono HV4.out.2.size), Strs.of hr6.out, fun hp => ?_⟩
    obtain ⟨g, off, e1, e2⟩ := hg6.out hp
    refine ⟨g, off, e1, ?_⟩
    have := K1.out.2.lt
    have := HV4.out.1.size
    omega
  clear hr6 hg6 hb6 hV4 hg7 a1
  have KA := K1.out.2.below HV5.out.1 K1.out.2.lt
  have a1 : V5.cell? ⟨g5, 1, none⟩ = some (.slice k.s.ta k.s.tn k.s.tc) := KA.cell rfl
  have fr := KA.free 1
  clear KA
  go_wp2
  clear a1 fr
  obtain ⟨W6, hW6⟩ : ∃ W6, V5.setCell ⟨g5, 1, none⟩ (.slice a6 k.s.tn c6) = W6 := ⟨_, rfl⟩
  rw [hW6]
  obtain ⟨k2, hk2⟩ : ∃ k2 : Ak, (⟨⟨k.s.user, a6, k.s.tn, c6, k.s.role, k.s.teams⟩, k.ch, k.path, k.right⟩ : Ak) = k2 := ⟨_, rfl⟩
  have K6 : Hid (Below w.heap.size w W6 ∧ Blk W6 g5 27 [.string k2.s.user, .slice k2.s.ta k2.s.tn k2.s.tc, iv k2.s.role, .string k2.ch, .string k2.path, iv k2.right] ∧ (k2.at W6 ∧ k2.wide) ∧ RuS W6 a n l ∧ RuS W6 a3 n l ∧ n ≤ 2199023255551) := by
    rw [← hk2, ← hW6]
    have hsz : V5.heap.size ≤ (V5.setCell ⟨g5, 1, none⟩ (.slice a6 k.s.tn c6)).heap.size := (grown_setCell V5 g5 1 _).size
    have hB : Below w.heap.size w (V5.setCell ⟨g5, 1, none⟩ (.slice a6 k.s.tn c6)) := below_grown (K1.out.1.trans (HV5.out.1.mono K1.out.1.size)) (grown_setCell V5 g5 1 _) (fun g hg => by cases hg; rw [HL0.out.2.2.2]; exact Nat.le_refl _) (Nat.le_refl _)
    refine ⟨hB, (K1.out.2.below HV5.out.1 K1.out.2.lt).set 1 _, ⟨⟨⟨?_, HL0.out.2.1.1.2⟩, HL0.out.2.1.2⟩, HL0.out.2.2.1⟩, HL0.out.1.below hB, ?_, HN.out⟩
    · refine HV5.out.2.2.1.same hsz fun hp g off e => ?_
      obtain ⟨g', off', e1, e2⟩ := HV5.out.2.2.2 hp
      rw [e1] at e
      cases e
      exact heap_setCell_other V5 ⟨g5, 1, none⟩ g _ (by show g ≠ g5; omega)
    · refine (HV3.out.2.2.1.below HV5.out.2.1).same hsz fun hp g off e => ?_
      obtain ⟨g', off', e1, e2⟩ := HV3.out.2.2.2 hp
      rw [e1] at e
      cases e
      exact heap_setCell_other V5 ⟨g5, 1, none⟩ g _ (by show g ≠ g5; omega)
  clear hW6 hk2
  go_loopw [25] (fun u wr => ∃ i : Nat, u = iv i ∧ Hid (i ≤ n ∧ Below W6.heap.size W6 wr)) (fun u _ => n - (intOf u).toNat)
  case atStart => exact ⟨0, rfl, Nat.zero_le _, Below.refl _ _⟩
  case round =>
    obtain ⟨i, rfl, HI⟩ := hrel
    by_cases hi : i = n
    · have q5 : (n : Int) ≤ (i : Int) := by omega
      clear hi
      obtain ⟨D, hD⟩ : ∃ D, dec l k2 = D := ⟨_, rfl⟩
      go_wp2_with fail
      refine decs_reg13 (l := l) (k := k2) (D := D) (K6.out.2.1.below HI.out.2 K6.out.2.1.lt) ⟨K6.out.2.2.1.1.below HI.out.2, K6.out.2.2.1.2⟩ ⟨K6.out.2.2.2.1.below HI.out.2, K6.out.2.2.2.2.1.below HI.out.2, HN.out⟩ hD ?_
      intro V7 hV7
      have HV7 : Hid (Below w.heap.size w V7) := K6.out.1.trans ((HI.out.2.trans (hV7.mono HI.out.2.size)).mono K6.out.1.size)
      clear hV7 hD
      go_wp2_with fail
      go_ret
      exact ⟨rfl, HV7.out⟩
    · have q5 : (i : Int) < (n : Int) := by have := HI.out.1; omega
      have HI2 : Hid (i < n) := by show _ < _; have := HI.out.1; omega
      obtain ⟨b, off, ha, hbl, hc⟩ := K6.out.2.2.2.1.2.2 (by have := HI2.out; omega)
      subst ha
      obtain ⟨b3, off3, ha3, hbl3, hc3⟩ := K6.out.2.2.2.2.1.2.2 (by have := HI2.out; omega)
      subst ha3
      obtain ⟨r, hr⟩ : ∃ r, l[i]? = some r := ⟨_, List.getElem?_eq_getElem (by rw [K6.out.2.2.2.1.1]; exact HI2.out)⟩
      have hcr : wr.rangeAt b (off + i * 5) r.cells := fun j v hj => (HI.out.2.cell (p := ⟨b, off + i * 5 + j, none⟩) hbl).trans (hc i r hr j v hj)
      obtain ⟨c0, c1, c2, c3, c4⟩ := ru_at hcr
      have HRS : Hid r.short := K6.out.2.2.2.1.2.1 r (List.mem_of_getElem? hr)
      obtain ⟨W7, hW7⟩ : ∃ W7, wr.alloc (.cells #[.string r.who, .string r.ch, .string r.pre, iv r.right, .bool r.deny] 31) = W7 := ⟨_, rfl⟩
      obtain ⟨ag, hag⟩ : ∃ ag, wr.heap.size = ag := ⟨_, rfl⟩
      have K7 : Hid (Below W6.heap.size W6 W7 ∧ Blk W7 ag 31 [.string r.who, .string r.ch, .string r.pre, iv r.right, .bool r.deny]) := by
        rw [← hW7, ← hag]
        exact ⟨HI.out.2.trans ((below_al wr _).mono HI.out.2.size), Blk.new wr _ 31⟩
      have HW3 : Hid (W6.rangeAt b3 (off3 + i * 5) r.cells ∧ b3 < W6.heap.size) := ⟨hc3 i r hr, hbl3⟩
      clear hi hc hcr hr hc3 hbl hbl3
      go_wp2_with fail
      clear hW7 hag c0 c1 c2 c3 c4
      obtain ⟨b1, hb1⟩ : ∃ b, ruleOk r = b := ⟨_, rfl⟩
      obtain ⟨b2, hb2⟩ : ∃ b, mat k2 r = b := ⟨_, rfl⟩
      refine decs_reg8 (r := r) (k := k2) (b1 := b1) (b2 := b2) (K6.out.2.1.below K7.out.1 K6.out.2.1.lt) ⟨K6.out.2.2.1.1.below K7.out.1, K6.out.2.2.1.2⟩ K7.out.2 HRS hb1 hb2 ?_
      intro V8 hV8
      have HV8 : Hid (Below W6.heap.size W6 V8 ∧ Blk V8 ag 31 [.string r.who, .string r.ch, .string r.pre, iv r.right, .bool r.deny]) := ⟨K7.out.1.trans (hV8.mono K7.out.1.size), K7.out.2.below hV8 K7.out.2.lt⟩
      clear hV8 hb1 hb2
      go_wp2_with fail
      refine decs_reg10 (r := r) ⟨fun j v hj => (HV8.out.1.cell (p := ⟨b3, off3 + i * 5 + j, none⟩) HW3.out.2).trans (HW3.out.1 j v hj), Nat.lt_of_lt_of_le HW3.out.2 HV8.out.1.size⟩ HV8.out.2 HRS q5 ?_
      intro V9 hV9
      have HV9 : Hid (Below W6.heap.size W6 V9) := HV8.out.1.trans (hV9.mono HV8.out.1.size)
      clear hV9
      go_wp2_with fail
      go_roundw
      case rel => exact ⟨i + 1, by simp, HI2.out, HV9.out⟩
      case measure => have := HI2.out; simp [intOf]; omega
#print axioms decides_law
end Go.Proofs.Ytngkajeghmogmaa.Oct
