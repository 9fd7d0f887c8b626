/-
  Layer 17 (acl): the law AclApart.
-/
import Derived.Test.YtngkajeghmogmaaMono
namespace Go.Proofs.Ytngkajeghmogmaa.Oct
open Go.RowKit Go.Shelf

theorem mat_parts {k : Ak} {x : Ru} (h : matB x k.s k.ch k.path k.right = true) : cov x.pre k.path = true ∧ (x.right == k.right) = true ∧ ruleOk x = true := by
  unfold matB at h
  simp only [Bool.and_eq_true] at h
  exact ⟨h.1.2, h.1.1.1.2, h.1.1.1.1⟩
theorem short_cons {l : List Ru} {r : Ru} (hl : ∀ q ∈ l, q.short) (hr : r.short) : ∀ q ∈ [r] ++ l, q.short := by
  intro q hq
  rcases List.mem_append.1 hq with h | h
  · have : q = r := by simpa using h
    rw [this]; exact hr
  · exact hl q h
set_option maxRecDepth 100000 in
set_option maxHeartbeats 4000000 in
theorem apart_law (l : List Ru) (a : Option Addr) (n cp : Nat) (r : Ru) (k : Ak) (w : World) (hl : RuS w a n l) (hn : n + 1 ≤ 2199023255551) (hr : r.short) (hk : k.at w) :
    Calls Try.prog 6 #[.slice a n cp, ruv r, av k] w fun e w' => e = .returned (.bool true) ∧ Below w.heap.size w w' := by
  obtain ⟨W1, g4, g5, hW1, hg4, hg5, K1⟩ := boxes w r k
  have HL1 : Hid (RuS W1 a n l ∧ k.at W1) := ⟨hl.below K1.out.1.1, hk.below K1.out.1.1⟩
  have HN : Hid (n ≤ 2199023255551) := by show _ ≤ _; omega
  have HN1 : Hid (n + 1 ≤ 2199023255551) := hn
  have HSH : Hid (∀ q ∈ l ++ [r], q.short) := short_app hl.2.1 hr
  have HSH2 : Hid (∀ q ∈ [r] ++ l, q.short) := short_cons hl.2.1 hr
  have HRS : Hid r.short := hr
  clear hl hn hr hk
  go_enter Try.func6, Try.ntmps6
  go_wp2_with fail
  clear hW1 hg4 hg5
  refine apart_light (k := k) (r := r) (HL1.out.1.rd) HN.out HSH.out K1.out.1.2 K1.out.2.2 HL1.out.2 ?_
  intro V b q q2 v a2 c2 hV
  have HV : Hid (Below W1.heap.size W1 V ∧ Below w.heap.size w V) := ⟨hV, K1.out.1.1.trans (hV.mono K1.out.1.1.size)⟩
  clear hV
  cases b
  · have HL := lives_st HV.out.2
    go_wp2_with (go_at_call 10; refine HL.mono ?_; rintro e w2 ⟨rfl, hb⟩)
    go_ret
    exact ⟨rfl, hb⟩
  · have KR := K1.out.1.2.below HV.out.1 K1.out.1.2.lt
    have KA := K1.out.2.2.below HV.out.1 K1.out.2.2.lt
    have r0 : V.cell? ⟨g4, 0, none⟩ = some (.string r.who) := KR.cell rfl
    have r1 : V.cell? ⟨g4, 1, none⟩ = some (.string r.ch) := KR.cell rfl
    have r2 : V.cell? ⟨g4, 2, none⟩ = some (.string r.pre) := KR.cell rfl
    have r3 : V.cell? ⟨g4, 3, none⟩ = some (iv r.right) := KR.cell rfl
    have r4 : V.cell? ⟨g4, 4, none⟩ = some (.bool r.deny) := KR.cell rfl
    have a0 : V.cell? ⟨g5, 0, none⟩ = some (.string k.s.user) := KA.cell rfl
    have a1 : V.cell? ⟨g5, 1, none⟩ = some (.slice k.s.ta k.s.tn k.s.tc) := KA.cell rfl
    have a2 : V.cell? ⟨g5, 2, none⟩ = some (iv k.s.role) := KA.cell rfl
    have a3 : V.cell? ⟨g5, 3, none⟩ = some (.string k.ch) := KA.cell rfl
    have a4 : V.cell? ⟨g5, 4, none⟩ = some (.string k.path) := KA.cell rfl
    have a5 : V.cell? ⟨g5, 5, none⟩ = some (iv k.right) := KA.cell rfl
    have HM := matches_is r HRS.out k.s k.ch k.path k.right V (HL1.out.2.below HV.out.1).1 HL1.out.2.2.1
    clear KR KA
    go_wp2_with fail
    refine HM.mono ?_
    rintro e V2 ⟨rfl, hb2⟩
    have HV2 : Hid (Below W1.heap.size W1 V2 ∧ Below w.heap.size w V2) := ⟨HV.out.1.trans (hb2.mono HV.out.1.size), HV.out.2.trans (hb2.mono HV.out.2.size)⟩
    clear HM hb2 r0 r1 r2 r3 r4 a0 a1 a2 a3 a4 a5
    cases hm : matB r k.s k.ch k.path k.right
    · have HEQ : Hid (dec ([r] ++ l) k = dec l k) := dec_apart hm
      clear hm
      go_wp2_with fail
      refine apart_dec (k := k) (r := r) ((HL1.out.1.below HV2.out.1).rd) HN.out HSH.out (K1.out.1.2.below HV2.out.1 K1.out.1.2.lt) (K1.out.2.2.below HV2.out.1 K1.out.2.2.lt) (HL1.out.2.below HV2.out.1) (HL1.out.1.below HV2.out.1) HN1.out HSH2.out HEQ.out ?_
      intro V3 q5 a5 c5 hV3
      have HV3 : Hid (Below w.heap.size w V3) := HV2.out.2.trans (hV3.mono HV2.out.2.size)
      clear hV3
      go_wp2
      go_ret
      exact ⟨rfl, HV3.out⟩
    · obtain ⟨m1, m2, m3⟩ := mat_parts hm
      have KR := K1.out.1.2.below HV2.out.1 K1.out.1.2.lt
      have KA := K1.out.2.2.below HV2.out.1 K1.out.2.2.lt
      have r2 : V2.cell? ⟨g4, 2, none⟩ = some (.string r.pre) := KR.cell rfl
      have a4 : V2.cell? ⟨g5, 4, none⟩ = some (.string k.path) := KA.cell rfl
      have HC := covers_b r.pre k.path true m1 V2 HL1.out.2.2.1
      have HRO : Hid (∀ W, Calls Try.prog 11 #[ruv r] W fun e w' => e = .returned (.bool true) ∧ Below W.heap.size W w') := fun W => by have := right_is r HRS.out W; rw [m3] at this; exact this
      clear hm m1 m3
      go_wp2_with fail
      refine HC.mono ?_
      rintro e V3 ⟨rfl, hb3⟩
      have HV3 : Hid (Below W1.heap.size W1 V3 ∧ Below w.heap.size w V3) := ⟨HV2.out.1.trans (hb3.mono HV2.out.1.size), HV2.out.2.trans (hb3.mono HV2.out.2.size)⟩
      have KR3 := K1.out.1.2.below HV3.out.1 K1.out.1.2.lt
      have KA3 := K1.out.2.2.below HV3.out.1 K1.out.2.2.lt
      have s0 : V3.cell? ⟨g4, 0, none⟩ = some (.string r.who) := KR3.cell rfl
      have s1 : V3.cell? ⟨g4, 1, none⟩ = some (.string r.ch) := KR3.cell rfl
      have s2 : V3.cell? ⟨g4, 2, none⟩ = some (.string r.pre) := KR3.cell rfl
      have s3 : V3.cell? ⟨g4, 3, none⟩ = some (iv r.right) := KR3.cell rfl
      have s4 : V3.cell? ⟨g4, 4, none⟩ = some (.bool r.deny) := KR3.cell rfl
      have b5 : V3.cell? ⟨g5, 5, none⟩ = some (iv k.right) := KA3.cell rfl
      clear HC hb3 r2 a4 KR KA KR3 KA3
      go_wp2_with fail
      refine (HRO.out V3).mono ?_
      rintro e V4 ⟨rfl, hb4⟩
      have HV4 : Hid (Below w.heap.size w V4) := HV3.out.2.trans (hb4.mono HV3.out.2.size)
      have HL := lives_st HV4.out
      clear hb4 s0 s1 s2 s3 s4 b5
      go_wp2_with (go_at_call 10; refine HL.mono ?_; rintro e w2 ⟨rfl, hb⟩)
      go_ret
      exact ⟨rfl, hb⟩
#print axioms apart_law
end Go.Proofs.Ytngkajeghmogmaa.Oct
