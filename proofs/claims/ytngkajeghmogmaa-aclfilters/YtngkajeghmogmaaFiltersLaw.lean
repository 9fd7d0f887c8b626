/-
  Layer 17 (acl): AclFilters.
-/
import Derived.Test.YtngkajeghmogmaaFilters
namespace Go.Proofs.Ytngkajeghmogmaa.Oct
open Go.RowKit Go.Shelf

theorem len_all (P : BA → Bool) (l : List BA) : (((l.filter P).length : Int) == (l.length : Int)) = l.all P := by
  rw [Bool.eq_iff_iff]
  simp only [beq_iff_eq, List.all_eq_true]
  rw [← List.length_filter_eq_length_iff]
  omega
set_option maxRecDepth 100000 in
set_option maxHeartbeats 4000000 in
theorem filters_law (l : List Ru) (a : Option Addr) (n cp : Nat) (k : Ak) (ps : List BA) (pa : Option Addr) (pn pc : Nat) (w : World) (hl : RuS w a n l) (hn : n + 1 ≤ 2199023255551) (hk : k.at w) (hw : k.wide) (hp : ArgP w pa pn pc ps) :
    Calls Try.prog 8 #[.slice a n cp, av k, .slice pa pn pc] w fun e w' => e = .returned (.bool true) ∧ Below w.heap.size w w' := by
  obtain ⟨W1, hW1⟩ : ∃ W1, w.alloc (.cells #[.string k.s.user, .slice k.s.ta k.s.tn k.s.tc, iv k.s.role, .string k.ch, .string k.path, iv k.right] 27) = W1 := ⟨_, rfl⟩
  obtain ⟨g5, hg5⟩ : ∃ g, w.heap.size = g := ⟨_, rfl⟩
  have K1 : Hid (Kp w g5 27 [.string k.s.user, .slice k.s.ta k.s.tn k.s.tc, iv k.s.role, .string k.ch, .string k.path, iv k.right] W1) := by rw [← hW1, ← hg5]; exact Kp.new w _ 27
  have HL1 : Hid (RuS W1 a n l ∧ (k.at W1 ∧ k.wide) ∧ Strs W1 pa pn ps ∧ (∀ t ∈ ps, t.size ≤ 140737488355328) ∧ n ≤ 2199023255551) := ⟨hl.below K1.out.1, ⟨hk.below K1.out.1, hw⟩, hp.1.below K1.out.1, hp.2.2, by omega⟩
  have qn : (n : Int) ≤ 2199023255551 := by omega
  have qp : (pn : Int) ≤ 8796093022208 := by have := hp.2.1; omega
  have HLT := light_is l a n cp k W1 HL1.out.1 (by omega) HL1.out.2.1.1
  have a0 : W1.cell? ⟨g5, 0, none⟩ = some (.string k.s.user) := K1.out.2.cell rfl
  have a1 : W1.cell? ⟨g5, 1, none⟩ = some (.slice k.s.ta k.s.tn k.s.tc) := K1.out.2.cell rfl
  have a2 : W1.cell? ⟨g5, 2, none⟩ = some (iv k.s.role) := K1.out.2.cell rfl
  have a3 : W1.cell? ⟨g5, 3, none⟩ = some (.string k.ch) := K1.out.2.cell rfl
  have a4 : W1.cell? ⟨g5, 4, none⟩ = some (.string k.path) := K1.out.2.cell rfl
  have a5 : W1.cell? ⟨g5, 5, none⟩ = some (iv k.right) := K1.out.2.cell rfl
  clear hl hn hk hw hp
  go_enter Try.func8, Try.ntmps8
  go_wp2_with fail
  refine HLT.mono ?_
  rintro e V ⟨b, rfl, hb⟩
  have HV : Hid (Below W1.heap.size W1 V ∧ Below w.heap.size w V) := ⟨hb, K1.out.1.trans (hb.mono K1.out.1.size)⟩
  clear HLT hb a0 a1 a2 a3 a4 a5 hW1 hg5
  cases b
  · have HL := lives_st HV.out.2
    go_wp2_with (go_at_call 10; refine HL.mono ?_; rintro e w2 ⟨rfl, hb⟩)
    go_ret
    exact ⟨rfl, hb⟩
  by_cases h50 : 50 < pn
  · have HL := lives_st HV.out.2
    have q5 : (50 : Int) < (pn : Int) := by omega
    clear h50
    go_wp2_with (go_at_call 10; refine HL.mono ?_; rintro e w2 ⟨rfl, hb⟩)
    go_ret
    exact ⟨rfl, hb⟩
  have q50 : (pn : Int) ≤ 50 := by omega
  have HPN : Hid (pn ≤ 50) := by show pn ≤ 50; omega
  clear h50 qp
  go_wp2
  go_loopw [22] (fun u wr => ∃ i : Nat, u = iv i ∧ Hid (i ≤ pn ∧ Below V.heap.size V wr)) (fun u _ => pn - (intOf u).toNat)
  case atStart => exact ⟨0, rfl, Nat.zero_le _, Below.refl _ _⟩
  case round =>
    obtain ⟨i, rfl, HI⟩ := hrel
    have HWR : Hid (Below W1.heap.size W1 wr ∧ Below w.heap.size w wr) := ⟨HV.out.1.trans (HI.out.2.mono HV.out.1.size), HV.out.2.trans (HI.out.2.mono HV.out.2.size)⟩
    by_cases hi : i = pn
    · have q5 : (pn : Int) ≤ (i : Int) := by omega
      clear hi
      obtain ⟨i0, hi0, hz0, hz1, hz2⟩ := info9s
      have HI0 : Hid (Try.prog.info? 9 = some i0 ∧ i0.zero = some (.string ⟨#[]⟩) ∧ i0.size = 1 ∧ i0.bytes ≤ 64) := ⟨hi0, hz0, hz1, hz2⟩
      clear hi0 hz0 hz1 hz2
      go_wp2_with fail
      refine fil_reg9 (l := l) (k := k) (ps := ps) (K1.out.2.below HWR.out.1 K1.out.2.lt) ⟨HL1.out.2.1.1.below HWR.out.1, HL1.out.2.1.2⟩ ⟨HL1.out.1.below HWR.out.1, HL1.out.2.2.2.2⟩ ⟨HL1.out.2.2.1.below HWR.out.1, by have := HPN.out; omega, HL1.out.2.2.2.1⟩ HI0 ?_
      intro V1 q0 qa qc fa fn fc hb1 hs1
      have HV1 : Hid (Below W1.heap.size W1 V1 ∧ Below w.heap.size w V1 ∧ Strs V1 fa fn (ps.filter fun p => decB l k.s k.ch p k.right)) := ⟨HWR.out.1.trans (hb1.mono HWR.out.1.size), HWR.out.2.trans (hb1.mono HWR.out.2.size), hs1⟩
      clear hb1 hs1
      have HFN : Hid (fn ≤ 1000000) := by
        have h1 := HV1.out.2.2.1
        have h2 := List.length_filter_le (fun p => decB l k.s k.ch p k.right) ps
        have h3 := HL1.out.2.2.1.1
        have h4 := HPN.out
        show fn ≤ 1000000
        rw [← h1]
        refine Nat.le_trans h2 ?_
        rw [h3]
        omega
      obtain ⟨D, hD⟩ : ∃ D, (ps.all fun p => decB l k.s k.ch p k.right) = D := ⟨_, rfl⟩
      have qD : ((fn : Int) == (pn : Int)) = D := by
        rw [← hD, ← len_all, HV1.out.2.2.1, HL1.out.2.2.1.1]
      have HD : Hid ((ps.all fun p => decB l k.s k.ch p k.right) = D) := hD
      clear hD
      have HC1 := refFilter_is l a n cp k.s k.ch ps pa pn pc k.right V1 (HL1.out.1.below HV1.out.1) HL1.out.2.2.2.2 (HL1.out.2.1.1.below HV1.out.1).1 HL1.out.2.1.1.2.2.2 HL1.out.2.1.2.2 (HL1.out.2.2.1.below HV1.out.1) (by have := HPN.out; omega) HL1.out.2.2.2.1
      have KA := K1.out.2.below HV1.out.1 K1.out.2.lt
      have a0 : V1.cell? ⟨g5, 0, none⟩ = some (.string k.s.user) := KA.cell rfl
      have a1 : V1.cell? ⟨g5, 1, none⟩ = some (.slice k.s.ta k.s.tn k.s.tc) := KA.cell rfl
      have a2 : V1.cell? ⟨g5, 2, none⟩ = some (iv k.s.role) := KA.cell rfl
      have a3 : V1.cell? ⟨g5, 3, none⟩ = some (.string k.ch) := KA.cell rfl
      have a5 : V1.cell? ⟨g5, 5, none⟩ = some (iv k.right) := KA.cell rfl
      clear KA
      go_wp2_with fail
      refine HC1.mono ?_
      rintro e V2 ⟨ra, rn, rc, rfl, hs2, hb2⟩
      have hrn : rn = fn := by rw [← hs2.1, HV1.out.2.2.1]
      subst hrn
      have HV2 : Hid (Below W1.heap.size W1 V2 ∧ Below w.heap.size w V2) := ⟨HV1.out.1.trans (hb2.mono HV1.out.1.size), HV1.out.2.1.trans (hb2.mono HV1.out.2.1.size)⟩
      have HC2 := texts_same (c := fc) (d := rc) (HV1.out.2.2.below hb2) hs2 HFN.out
      clear HC1 hs2 hb2 a0 a1 a2 a3 a5
      go_wp2_with fail
      refine HC2.mono ?_
      rintro e V3 ⟨rfl, hb3⟩
      have HV3 : Hid (Below W1.heap.size W1 V3 ∧ Below w.heap.size w V3) := ⟨HV2.out.1.trans (hb3.mono HV2.out.1.size), HV2.out.2.trans (hb3.mono HV2.out.2.size)⟩
      clear HC2 hb3
      have HC3 := all_is l a n cp k.s k.ch ps pa pn pc k.right V3 (HL1.out.1.below HV3.out.1) HL1.out.2.2.2.2 (HL1.out.2.1.1.below HV3.out.1).1 (HL1.out.2.2.1.below HV3.out.1) (by have := HPN.out; omega) HL1.out.2.2.2.1
      rw [HD.out] at HC3
      have KA := K1.out.2.below HV3.out.1 K1.out.2.lt
      have a0 : V3.cell? ⟨g5, 0, none⟩ = some (.string k.s.user) := KA.cell rfl
      have a1 : V3.cell? ⟨g5, 1, none⟩ = some (.slice k.s.ta k.s.tn k.s.tc) := KA.cell rfl
      have a2 : V3.cell? ⟨g5, 2, none⟩ = some (iv k.s.role) := KA.cell rfl
      have a3 : V3.cell? ⟨g5, 3, none⟩ = some (.string k.ch) := KA.cell rfl
      have a5 : V3.cell? ⟨g5, 5, none⟩ = some (iv k.right) := KA.cell rfl
      clear KA
      go_wp2_with fail
      refine HC3.mono ?_
      rintro e V4 ⟨rfl, hb4⟩
      have HV4 : Hid (Below w.heap.size w V4) := HV3.out.2.trans (hb4.mono HV3.out.2.size)
      clear HC3 hb4 a0 a1 a2 a3 a5
      have HL := lives_st HV4.out
      cases D
      · go_wp2_with (go_at_call 10; refine HL.mono ?_; rintro e w2 ⟨rfl, hb⟩)
        go_ret
        exact ⟨rfl, hb⟩
      · go_wp2_with (go_at_call 10; refine HL.mono ?_; rintro e w2 ⟨rfl, hb⟩)
        go_ret
        exact ⟨rfl, hb⟩
    · have q5 : (i : Int) < (pn : Int) := by have := HI.out.1; omega
      have HI2 : Hid (i < pn) := by show _ < _; have := HI.out.1; omega
      obtain ⟨b, off, ha, hbl, hc⟩ := HL1.out.2.2.1.2 (by have := HI2.out; omega)
      subst ha
      obtain ⟨x, hx⟩ : ∃ x, ps[i]? = some x := ⟨_, List.getElem?_eq_getElem (by rw [HL1.out.2.2.1.1]; exact HI2.out)⟩
      have c0 : wr.cell? ⟨b, off + i, none⟩ = some (.string x) := (HWR.out.1.cell (p := ⟨b, off + i, none⟩) hbl).trans (hc i x hx)
      clear hi hc hx hbl
      by_cases h2 : 200 < x.size
      · have HL := lives_st HWR.out.2
        have q6 : (200 : Int) < (x.size : Int) := by omega
        clear h2
        go_wp2_with (go_at_call 10; refine HL.mono ?_; rintro e w2 ⟨rfl, hb⟩)
        go_ret
        exact ⟨rfl, hb⟩
      · have q6 : (x.size : Int) ≤ 200 := by omega
        clear h2
        go_wp2_with fail
        go_roundw
        case rel => exact ⟨i + 1, by simp, HI2.out, HI.out.2⟩
        case measure => have := HI2.out; simp [intOf]; omega
#print axioms filters_law
end Go.Proofs.Ytngkajeghmogmaa.Oct
