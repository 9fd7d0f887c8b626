/-
  Layer 17 (acl): the law AclOrder.
-/
import Derived.Test.YtngkajeghmogmaaReg5
import Derived.Test.YtngkajeghmogmaaApart
namespace Go.Proofs.Ytngkajeghmogmaa.Oct
open Go.RowKit Go.Shelf

/-- the rules turned and told backwards -/
def rotl (l : List Ru) (kk : Nat) : Nat → List Ru
  | 0 => []
  | i + 1 => match l[(i + kk) % l.length]? with
    | some x => x :: rotl l kk i
    | none => rotl l kk i
theorem mem_rotl {l : List Ru} {kk : Nat} {r : Ru} : ∀ {i : Nat}, r ∈ rotl l kk i ↔ ∃ j, j < i ∧ l[(j + kk) % l.length]? = some r
  | 0 => by simp [rotl]
  | i + 1 => by
    have ih := mem_rotl (l := l) (kk := kk) (r := r) (i := i)
    constructor
    · intro h
      unfold rotl at h
      split at h
      · rename_i x hx
        rcases List.mem_cons.1 h with rfl | h
        · exact ⟨i, by omega, hx⟩
        · obtain ⟨j, h1, h2⟩ := ih.1 h
          exact ⟨j, by omega, h2⟩
      · obtain ⟨j, h1, h2⟩ := ih.1 h
        exact ⟨j, by omega, h2⟩
    · rintro ⟨j, h1, h2⟩
      unfold rotl
      by_cases hj : j = i
      · subst hj
        rw [h2]
        simp
      · have := ih.2 ⟨j, by omega, h2⟩
        split
        · exact List.mem_cons_of_mem _ this
        · exact this
theorem rotl_all {l : List Ru} {kk : Nat} (hk : kk < l.length) (r : Ru) : r ∈ rotl l kk l.length ↔ r ∈ l := by
  rw [mem_rotl]
  constructor
  · rintro ⟨j, _, h⟩
    exact List.mem_of_getElem? h
  · intro h
    obtain ⟨t, ht, he⟩ := List.getElem_of_mem h
    refine ⟨(t + l.length - kk) % l.length, Nat.mod_lt _ (by omega), ?_⟩
    have : ((t + l.length - kk) % l.length + kk) % l.length = t := by
      rw [Nat.mod_add_mod, show t + l.length - kk + kk = t + l.length by omega, Nat.add_mod_right, Nat.mod_eq_of_lt ht]
    rw [this, List.getElem?_eq_getElem ht, he]
theorem rotl_next {l : List Ru} {kk i : Nat} {x : Ru} (h : l[(i + kk) % l.length]? = some x) : rotl l kk (i + 1) = [x] ++ rotl l kk i := by
  show (match l[(i + kk) % l.length]? with | some x => x :: rotl l kk i | none => rotl l kk i) = _
  rw [h]
  rfl
theorem rotl_sub {l : List Ru} {kk i : Nat} : ∀ r ∈ rotl l kk i, r ∈ l := fun r hr => by
  obtain ⟨j, _, h⟩ := mem_rotl.1 hr
  exact List.mem_of_getElem? h
theorem rotl_len {l : List Ru} {kk : Nat} (hl : 0 < l.length) : ∀ i, (rotl l kk i).length = i
  | 0 => rfl
  | i + 1 => by
    have h : (i + kk) % l.length < l.length := Nat.mod_lt _ hl
    rw [rotl_next (List.getElem?_eq_getElem h)]
    simp [rotl_len hl i]
#print axioms rotl_all
set_option maxRecDepth 100000 in
set_option maxHeartbeats 4000000 in
theorem order_law (l : List Ru) (a : Option Addr) (n cp : Nat) (turn : Int) (k : Ak) (w : World) (hl : RuS w a n l) (hn : n + 1 ≤ 2199023255551) (hk : k.at w) :
    Calls Try.prog 5 #[.slice a n cp, iv turn, av k] w fun e w' => e = .returned (.bool true) ∧ Below w.heap.size w w' := by
  obtain ⟨W1, hW1⟩ : ∃ W1, w.alloc (.cells #[.string k.s.user, .slice k.s.ta k.s.tn k.s.tc, iv k.s.role, .string k.ch, .string k.path, iv k.right] 27) = W1 := ⟨_, rfl⟩
  obtain ⟨g5, hg5⟩ : ∃ g, w.heap.size = g := ⟨_, rfl⟩
  have K1 : Hid (Kp w g5 27 [.string k.s.user, .slice k.s.ta k.s.tn k.s.tc, iv k.s.role, .string k.ch, .string k.path, iv k.right] W1) := by rw [← hW1, ← hg5]; exact Kp.new w _ 27
  have HL1 : Hid (RuS W1 a n l ∧ k.at W1) := ⟨hl.below K1.out.1, hk.below K1.out.1⟩
  have HN1 : Hid (n + 1 ≤ 2199023255551) := hn
  have HN : Hid (n ≤ 2199023255551) := by show _ ≤ _; omega
  have qn : (n : Int) ≤ 2199023255551 := by omega
  have HLT := light_is l a n cp k W1 HL1.out.1 (by omega) HL1.out.2
  have a0 : W1.cell? ⟨g5, 0, none⟩ = some (.string k.s.user) := K1.out.2.cell rfl
  have a1 : W1.cell? ⟨g5, 1, none⟩ = some (.slice k.s.ta k.s.tn k.s.tc) := K1.out.2.cell rfl
  have a2 : W1.cell? ⟨g5, 2, none⟩ = some (iv k.s.role) := K1.out.2.cell rfl
  have a3 : W1.cell? ⟨g5, 3, none⟩ = some (.string k.ch) := K1.out.2.cell rfl
  have a4 : W1.cell? ⟨g5, 4, none⟩ = some (.string k.path) := K1.out.2.cell rfl
  have a5 : W1.cell? ⟨g5, 5, none⟩ = some (iv k.right) := K1.out.2.cell rfl
  clear hl hn hk
  go_enter Try.func5, Try.ntmps5
  go_wp2_with fail
  refine HLT.mono ?_
  rintro e V ⟨b, rfl, hb⟩
  have HV : Hid (Below W1.heap.size W1 V ∧ Below w.heap.size w V) := ⟨hb, K1.out.1.trans (hb.mono K1.out.1.size)⟩
  clear HLT hb a0 a1 a2 a3 a4 a5 hW1 hg5
  have HL := lives_st HV.out.2
  cases b
  · go_wp2_with (go_at_call 10; refine HL.mono ?_; rintro e w2 ⟨rfl, hb⟩)
    go_ret
    exact ⟨rfl, hb⟩
  by_cases h0 : n = 0
  · subst h0
    go_wp2_with (go_at_call 10; refine HL.mono ?_; rintro e w2 ⟨rfl, hb⟩)
    go_ret
    exact ⟨rfl, hb⟩
  clear HL
  have q0 : ((n : Int) == 0) = false := by simp; omega
  have HP : Hid (0 < n) := by show 0 < n; omega
  obtain ⟨kk, hkk⟩ : ∃ kk : Nat, (IntKind.u64.wrap turn).tmod (n : Int) = (kk : Int) := by
    refine ⟨((IntKind.u64.wrap turn).tmod (n : Int)).toNat, ?_⟩
    have : 0 ≤ IntKind.u64.wrap turn := by rw [IntKind.wrap_u64]; omega
    have := Int.tmod_nonneg (n : Int) this
    omega
  have HKN : Hid (kk < n) := by
    show kk < n
    have h1 : 0 ≤ IntKind.u64.wrap turn := by rw [IntKind.wrap_u64]; omega
    have := Int.tmod_lt_of_pos (IntKind.u64.wrap turn) (show (0 : Int) < n by omega)
    omega
  have qk : (kk : Int) ≤ 2199023255551 := by have := HKN.out; omega
  have HB0 : Hid (Bs 31 5 V.heap.size V (.slice none 0 0) 0 (flat (rotl l kk 0))) := .inr ⟨by simp [rotl, flat], rfl, .inl ⟨rfl, rfl⟩⟩
  go_wp2
  clear hkk h0
  go_loopw [29, 7] (fun u v wr => ∃ (i : Nat) (am : Option Addr) (cm : Nat), u = iv i ∧ v = .slice am i cm ∧ Hid (i ≤ n ∧ Below W1.heap.size W1 wr ∧ ∃ Bm, W1.heap.size ≤ Bm ∧ Bm ≤ wr.heap.size ∧ Bs 31 5 Bm wr (.slice am i cm) i (flat (rotl l kk i)))) (fun u _ _ => n - (intOf u).toNat)
  case atStart => exact ⟨0, none, 0, rfl, rfl, Nat.zero_le _, HV.out.1, V.heap.size, HV.out.1.size, Nat.le_refl _, HB0.out⟩
  case round =>
    obtain ⟨i, am, cm, rfl, rfl, HI⟩ := hrel
    obtain ⟨_, hbw, Bm, hB1, hB2, hBS⟩ := HI.out
    have HB : Hid (Below W1.heap.size W1 wr ∧ W1.heap.size ≤ Bm ∧ Bm ≤ wr.heap.size ∧ Bs 31 5 Bm wr (.slice am i cm) i (flat (rotl l kk i)) ∧ Below w.heap.size w wr) := ⟨hbw, hB1, hB2, hBS, K1.out.1.trans (hbw.mono K1.out.1.size)⟩
    clear hbw hB1 hB2 hBS
    obtain ⟨b, off, ha, hbl, hc⟩ := HL1.out.1.2.2 (by have := HP.out; omega)
    subst ha
    by_cases hi : i = n
    · subst hi
      have q1 : (i : Int) ≤ (i : Int) := Int.le_refl _
      obtain ⟨r, hr⟩ : ∃ r, l[kk]? = some r := ⟨_, List.getElem?_eq_getElem (by rw [HL1.out.1.1]; exact HKN.out)⟩
      have hkl : kk < l.length := by rw [HL1.out.1.1]; exact HKN.out
      have HE1 : Hid (dec (rotl l kk i) k = dec l k) := dec_same k fun r => by have := rotl_all hkl r; rw [HL1.out.1.1] at this; exact this
      have HE2 : Hid (dec (rotl l kk i ++ [r]) k = dec l k) := dec_same k fun q => by
        have := rotl_all hkl q
        rw [HL1.out.1.1] at this
        rw [List.mem_append, this]
        constructor
        · rintro (h | h)
          · exact h
          · have : q = r := by simpa using h
            rw [this]; exact List.mem_of_getElem? hr
        · exact .inl
      have HSL : Hid (∀ q ∈ rotl l kk i, q.short) := fun q hq => HL1.out.1.2.1 q (rotl_sub q hq)
      have HSM : Hid (∀ q ∈ rotl l kk i ++ [r], q.short) := short_app HSL.out (HL1.out.1.2.1 r (List.mem_of_getElem? hr))
      have HRR : Hid (W1.rangeAt b (off + kk * 5) r.cells ∧ b < W1.heap.size) := ⟨hc kk r hr, hbl⟩
      have HQK : Hid ((kk : Int) < (i : Int)) := by show _ < _; have := HKN.out; omega
      clear hc hr hkl
      go_wp2_with fail
      refine order_dec (Z := W1) (k := k) (r := r) (kk := kk) (ml := rotl l kk i) (Bm := Bm) HB.out.1 HN.out HN1.out K1.out.2 HL1.out.2 HL1.out.1 HRR.out HQK.out HB.out.2.2.2.1 HB.out.2.2.1 HB.out.2.1 HSL.out HSM.out HE1.out HE2.out ?_
      intro V5 q6 a5 c5 hV5
      have HV5 : Hid (Below w.heap.size w V5) := K1.out.1.trans (hV5.mono K1.out.1.size)
      clear hV5
      go_wp2
      go_ret
      exact ⟨rfl, HV5.out⟩
    · have q1 : (i : Int) < (n : Int) := by have := HI.out.1; omega
      have HI2 : Hid (i < n) := by show _ < _; have := HI.out.1; omega
      obtain ⟨jj, hjj⟩ : ∃ jj, (i + kk) % n = jj := ⟨_, rfl⟩
      have hjn : jj < n := by rw [← hjj]; exact Nat.mod_lt _ HP.out
      have q2 : ((i : Int) + (kk : Int)).tmod (n : Int) = (jj : Int) := by
        rw [Int.tmod_eq_emod_of_nonneg (by omega), ← hjj]
        norm_cast
      have q3 : (jj : Int) < (n : Int) := by omega
      have q4 : (jj : Int) ≤ 2199023255551 := by omega
      obtain ⟨r, hr⟩ : ∃ r, l[jj]? = some r := ⟨_, List.getElem?_eq_getElem (by rw [HL1.out.1.1]; exact hjn)⟩
      have hcr : wr.rangeAt b (off + jj * 5) r.cells := fun j v hj => (HB.out.1.cell (p := ⟨b, off + jj * 5 + j, none⟩) hbl).trans (hc jj r hr j v hj)
      obtain ⟨c0, c1, c2, c3, c4⟩ := ru_at hcr
      have HNX : Hid (rotl l kk (i + 1) = [r] ++ rotl l kk i) := rotl_next (by rw [HL1.out.1.1, hjj]; exact hr)
      obtain ⟨_, _, hve, _, hmrd, _⟩ := HB.out.2.2.2.1.read
      cases hve
      have HMR : Hid (Rd wr 31 5 am i (flat (rotl l kk i))) := hmrd
      obtain ⟨i0, hi0, hz0, hz1, hz2⟩ := info31
      have HI0 : Hid (Try.prog.info? 31 = some i0 ∧ i0.zero = some (.agg #[.string ⟨#[]⟩, .string ⟨#[]⟩, .string ⟨#[]⟩, .int .i64 0, .bool false]) ∧ i0.size = 5 ∧ i0.bytes ≤ 64) := ⟨hi0, hz0, hz1, hz2⟩
      have hn0 : ¬ n = 0 := by have := HP.out; omega
      clear hc hcr hr hjj hjn hi hi0 hz0 hz1 hz2 hmrd
      go_wp2_with (with_reducible change wpList _ _ _ ({ dst := some 43, op := _, type := _, pos := _, after := _, guard := _ } :: _) _ _; refine Hid.out ?_)
      show wpList _ _ _ _ _ _
      obtain ⟨W5, hW5⟩ : ∃ W5, wr.alloc (.cells #[.string r.who, .string r.ch, .string r.pre, iv r.right, .bool r.deny] 31) = W5 := ⟨_, rfl⟩
      obtain ⟨ag, hag⟩ : ∃ ag, wr.heap.size = ag := ⟨_, rfl⟩
      have K5 : Hid (Below W1.heap.size W1 W5 ∧ Below wr.heap.size wr W5 ∧ Rd W5 31 5 (some ⟨ag, 0, none⟩) 1 (flat [r]) ∧ Rd W5 31 5 am i (flat (rotl l kk i))) := by
        rw [← hW5, ← hag]
        exact ⟨HB.out.1.trans ((below_al wr _).mono HB.out.1.size), below_al wr _, rd_one wr r, HMR.out.below (below_al wr _) (Nat.le_refl _)⟩
      rw [hW5, hag]
      refine wpList_append_bs rfl (.tmp 41) (.tmp 42) 22 rfl W5 31 i0 _ 5 W5.heap.size Try.underlying22 HI0.out.1 HI0.out.2.1 HI0.out.2.2.1 HI0.out.2.2.2 rfl (by omega) (.slice (some ⟨ag, 0, none⟩) 1 1) 1 (flat [r]) (.inl ⟨_, rfl, K5.out.2.2.1, .inr ⟨ag, 0, rfl⟩⟩) am i cm (flat (rotl l kk i)) rfl rfl K5.out.2.2.2 (Nat.le_refl _) (by have := HN1.out; have := HI2.out; omega) ?_
      intro v6 w6 hb6 hw6
      obtain ⟨a6, c6, hv6, _, _, _⟩ := hb6.out.read
      have e6 : 1 + i = i + 1 := Nat.add_comm 1 i
      rw [e6] at hv6
      subst hv6
      have HB6 : Hid (Bs 31 5 W5.heap.size w6 (.slice a6 (i + 1) c6) (i + 1) (flat (rotl l kk (i + 1)))) := by
        have := hb6.out
        rw [← flat_app, e6, ← HNX.out] at this
        exact this
      have HW6 : Hid (Below W1.heap.size W1 w6 ∧ W1.heap.size ≤ W5.heap.size ∧ W5.heap.size ≤ w6.heap.size) := ⟨K5.out.1.trans (hw6.out.mono K5.out.1.size), K5.out.1.size, hw6.out.size⟩
      clear hb6 hw6 hW5 hag c0 c1 c2 c3 c4
      go_wp2
      refine ⟨⟨i + 1, a6, c6, by simp, rfl, HI2.out, HW6.out.1, W5.heap.size, HW6.out.2.1, HW6.out.2.2, HB6.out⟩, ?_⟩
      have := HI2.out
      simp only [intOf]
      omega
#print axioms order_law
end Go.Proofs.Ytngkajeghmogmaa.Oct
