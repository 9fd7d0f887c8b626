/-
  Layer 17 (acl): the laws AclMonotone and AclApart.
-/
import Derived.Test.YtngkajeghmogmaaReg2
import Derived.Test.YtngkajeghmogmaaDec
namespace Go.Proofs.Ytngkajeghmogmaa.Oct
open Go.RowKit Go.Shelf

/-- the laws' two boxes -/
theorem boxes (w : World) (r : Ru) (k : Ak) : ∃ W1 g4 g5, (w.alloc (.cells #[.string r.who, .string r.ch, .string r.pre, iv r.right, .bool r.deny] 31)).alloc (.cells #[.string k.s.user, .slice k.s.ta k.s.tn k.s.tc, iv k.s.role, .string k.ch, .string k.path, iv k.right] 27) = W1 ∧ w.heap.size = g4 ∧ g4 + 1 = g5 ∧
    Hid (Kp w g4 31 [.string r.who, .string r.ch, .string r.pre, iv r.right, .bool r.deny] W1 ∧ Kp w g5 27 [.string k.s.user, .slice k.s.ta k.s.tn k.s.tc, iv k.s.role, .string k.ch, .string k.path, iv k.right] W1) := by
  refine ⟨_, _, _, rfl, rfl, rfl, ?_⟩
  have h1 := Kp.new w #[.string r.who, .string r.ch, .string r.pre, iv r.right, .bool r.deny] 31
  have h2 := h1.step (below_al _ (.cells #[.string k.s.user, .slice k.s.ta k.s.tn k.s.tc, iv k.s.role, .string k.ch, .string k.path, iv k.right] 27))
  refine ⟨h2, h2.1, ?_⟩
  have := Blk.new (w.alloc (.cells #[.string r.who, .string r.ch, .string r.pre, iv r.right, .bool r.deny] 31)) #[.string k.s.user, .slice k.s.ta k.s.tn k.s.tc, iv k.s.role, .string k.ch, .string k.path, iv k.right] 27
  rw [World.size_alloc] at this
  exact this
theorem short_app {l : List Ru} {r : Ru} (hl : ∀ q ∈ l, q.short) (hr : r.short) : ∀ q ∈ l ++ [r], q.short := by
  intro q hq
  rcases List.mem_append.1 hq with h | h
  · exact hl q h
  · have : q = r := by simpa using h
    rw [this]; exact hr
set_option maxRecDepth 100000 in
set_option maxHeartbeats 4000000 in
theorem mono_law (l : List Ru) (a : Option Addr) (n cp : Nat) (r : Ru) (k : Ak) (w : World) (hl : RuS w a n l) (hn : n + 1 ≤ 2199023255551) (hr : r.short) (hk : k.at w) :
    Calls Try.prog 4 #[.slice a n cp, ruv r, av k] w fun e w' => e = .returned (.bool true) ∧ Below w.heap.size w w' := by
  obtain ⟨W1, g4, g5, hW1, hg4, hg5, K1⟩ := boxes w r k
  have HL1 : Hid (RuS W1 a n l ∧ k.at W1) := ⟨hl.below K1.out.1.1, hk.below K1.out.1.1⟩
  have HN : Hid (n ≤ 2199023255551) := by show _ ≤ _; omega
  have HN1 : Hid (n + 1 ≤ 2199023255551) := hn
  have HSH : Hid (∀ q ∈ l ++ [r], q.short) := short_app hl.2.1 hr
  have HA : Hid ((r.deny = false → dec l k = true → dec (l ++ [r]) k = true) ∧ (r.deny = true → dec (l ++ [r]) k = true → dec l k = true)) := ⟨dec_allow, dec_deny⟩
  clear hl hn hr hk
  go_enter Try.func4, Try.ntmps4
  go_wp2_with fail
  clear hW1 hg4 hg5
  refine mono_light (k := k) (r := r) (HL1.out.1.rd) HN.out HSH.out K1.out.1.2 K1.out.2.2 HL1.out.2 ?_
  intro V b q q2 v a2 c2 hV
  have HV : Hid (Below W1.heap.size W1 V ∧ Below w.heap.size w V) := ⟨hV, K1.out.1.1.trans (hV.mono K1.out.1.1.size)⟩
  clear hV
  cases b
  · have HL := lives_st HV.out.2
    go_wp2_with (go_at_call 10; refine HL.mono ?_; rintro e w2 ⟨rfl, hb⟩)
    go_ret
    exact ⟨rfl, hb⟩
  · go_wp2_with fail
    refine mono_dec (k := k) (r := r) ((HL1.out.1.below HV.out.1).rd) HN.out HSH.out (K1.out.1.2.below HV.out.1 K1.out.1.2.lt) (K1.out.2.2.below HV.out.1 K1.out.2.2.lt) (HL1.out.2.below HV.out.1) (HL1.out.1.below HV.out.1) HN1.out ?_
    intro V2 q3 q4 v3 a3 c3 hV2
    have HV2 : Hid (Below W1.heap.size W1 V2 ∧ Below w.heap.size w V2) := ⟨HV.out.1.trans (hV2.mono HV.out.1.size), HV.out.2.trans (hV2.mono HV.out.2.size)⟩
    have d4 : V2.cell? ⟨g4, 4, none⟩ = some (.bool r.deny) := (K1.out.1.2.below HV2.out.1 K1.out.1.2.lt).cell rfl
    have HL := lives_st HV2.out.2
    obtain ⟨h1, h2⟩ := HA.out
    generalize dec l k = d1 at h1 h2 ⊢
    generalize dec (l ++ [r]) k = d2 at h1 h2 ⊢
    generalize r.deny = dn at h1 h2 d4
    clear hV2 HA
    cases d1 <;> cases d2 <;> cases dn
    all_goals first
      | (exfalso; simp at h1; done)
      | (exfalso; simp at h2; done)
      | skip
    all_goals clear h1 h2
    all_goals go_wp2_with (go_at_call 10; refine HL.mono ?_; rintro e w2 ⟨rfl, hb⟩)
    all_goals go_ret
    all_goals exact ⟨rfl, hb⟩
#print axioms mono_law
end Go.Proofs.Ytngkajeghmogmaa.Oct
