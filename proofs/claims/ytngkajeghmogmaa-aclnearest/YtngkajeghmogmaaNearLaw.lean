/-
  Layer 17 (acl): the law AclNearest.
-/
import Derived.Test.YtngkajeghmogmaaApart
namespace Go.Proofs.Ytngkajeghmogmaa.Oct
open Go.RowKit Go.Shelf

theorem denied_snoc (k : Ak) (l : List Ru) (x : Ru) : deniedAt k (l ++ [x]) = (deniedAt k l || (x.deny && x.pre.toList == k.path.toList && matB x k.s k.ch k.path k.right)) := by
  simp [deniedAt]
set_option maxRecDepth 100000 in
set_option maxHeartbeats 4000000 in
theorem near_law (l : List Ru) (a : Option Addr) (n cp : Nat) (k : Ak) (dy : Bool) (w : World) (hl : RuS w a n l) (hn : n + 1 ≤ 2199023255551) (hk : k.at w) :
    Calls Try.prog 7 #[.slice a n cp, av k, .bool dy] w fun e w' => e = .returned (.bool true) ∧ Below w.heap.size w w' := by
  obtain ⟨W1, hW1⟩ : ∃ W1, w.alloc (.cells #[.string k.s.user, .slice k.s.ta k.s.tn k.s.tc, iv k.s.role, .string k.ch, .string k.path, iv k.right] 27) = W1 := ⟨_, rfl⟩
  obtain ⟨g5, hg5⟩ : ∃ g, w.heap.size = g := ⟨_, rfl⟩
  have K1 : Hid (Kp w g5 27 [.string k.s.user, .slice k.s.ta k.s.tn k.s.tc, iv k.s.role, .string k.ch, .string k.path, iv k.right] W1) := by rw [← hW1, ← hg5]; exact Kp.new w _ 27
  have HL1 : Hid (RuS W1 a n l ∧ k.at W1) := ⟨hl.below K1.out.1, hk.below K1.out.1⟩
  have HN1 : Hid (n + 1 ≤ 2199023255551) := hn
  have HN : Hid (n ≤ 2199023255551) := by show _ ≤ _; omega
  have qn : (n : Int) ≤ 2199023255551 := by omega
  have HLT := light_is l a n cp k W1 HL1.out.1 (by omega) HL1.out.2
  have a0 : W1.cell? ⟨g5, 0, none⟩ = some (.string k.s.user) := K1.out.2.cell rfl
  have a1 : W1.cell? ⟨g5, 1, none⟩ = some (.slice k.s.ta k.s.tn k.s.tc) := K1.out.2.cell rfl
  have a2 : W1.cell? ⟨g5, 2, none⟩ = some (iv k.s.role) := K1.out.2.cell rfl
  have a3 : W1.cell? ⟨g5, 3, none⟩ = some (.string k.ch) := K1.out.2.cell rfl
  have a4 : W1.cell? ⟨g5, 4, none⟩ = some (.string k.path) := K1.out.2.cell rfl
  have a5 : W1.cell? ⟨g5, 5, none⟩ = some (iv k.right) := K1.out.2.cell rfl
  clear hl hn hk
  go_enter Try.func7, Try.ntmps7
  go_wp2_with fail
  refine HLT.mono ?_
  rintro e V ⟨b, rfl, hb⟩
  have HV : Hid (Below W1.heap.size W1 V ∧ Below w.heap.size w V) := ⟨hb, K1.out.1.trans (hb.mono K1.out.1.size)⟩
  clear HLT hb a0 a1 a2 a3 a4 a5 hW1 hg5
  have KA := K1.out.2.below HV.out.1 K1.out.2.lt
  have a4 : V.cell? ⟨g5, 4, none⟩ = some (.string k.path) := KA.cell rfl
  clear KA
  cases b
  · have HL := lives_st HV.out.2
    go_wp2_with (go_at_call 10; refine HL.mono ?_; rintro e w2 ⟨rfl, hb⟩)
    go_ret
    exact ⟨rfl, hb⟩
  have HP := path_is k.path V HL1.out.2.2.1
  go_wp2_with fail
  refine HP.mono ?_
  rintro e V2 ⟨rfl, hb2⟩
  have HV2 : Hid (Below W1.heap.size W1 V2 ∧ Below w.heap.size w V2) := ⟨HV.out.1.trans (hb2.mono HV.out.1.size), HV.out.2.trans (hb2.mono HV.out.2.size)⟩
  clear HP hb2 a4
  have KA := K1.out.2.below HV2.out.1 K1.out.2.lt
  have a4 : V2.cell? ⟨g5, 4, none⟩ = some (.string k.path) := KA.cell rfl
  have a5 : V2.cell? ⟨g5, 5, none⟩ = some (iv k.right) := KA.cell rfl
  clear KA
  cases hp : isPath k.path.data.toList
  · have HL := lives_st HV2.out.2
    clear hp
    go_wp2_with (go_at_call 10; refine HL.mono ?_; rintro e w2 ⟨rfl, hb⟩)
    go_ret
    exact ⟨rfl, hb⟩
  cases hr : rightOk k.right
  · have HL := lives_st HV2.out.2
    have q1 : (k.right == 1) = false ∧ (k.right == 2) = false := by
      unfold rightOk at hr
      simpa [Bool.or_eq_false_iff] using hr
    obtain ⟨q1, q2⟩ := q1
    have q1' : (k.right != 1) = true := by simp only [bne, q1]; rfl
    have q2' : (k.right != 2) = true := by simp only [bne, q2]; rfl
    clear hp hr
    go_wp2_with (go_at_call 10; refine HL.mono ?_; rintro e w2 ⟨rfl, hb⟩)
    go_ret
    exact ⟨rfl, hb⟩
  have HQ : Hid (∀ m : List Ru, dec (m ++ [very k.path k.right dy]) k = !(dy || deniedAt k m)) := fun m => dec_very hp hr
  have q1 : ((k.right != 1) && (k.right != 2)) = false := by
    unfold rightOk at hr
    simp only [bne]
    cases h1 : (k.right == 1) <;> simp_all
  have q2 : (k.right != 1) = false ∨ ((k.right != 1) = true ∧ (k.right != 2) = false) := by
    cases h1 : (k.right != 1)
    · exact .inl rfl
    · rw [h1] at q1
      exact .inr ⟨rfl, by simpa using q1⟩
  obtain ⟨W3, hW3⟩ : ∃ W3, V2.alloc (.cells #[.string ⟨#[42]⟩, .string ⟨#[]⟩, .string k.path, iv k.right, .bool dy] 31) = W3 := ⟨_, rfl⟩
  obtain ⟨g7, hg7⟩ : ∃ g, V2.heap.size = g := ⟨_, rfl⟩
  have K3 : Hid (Below W1.heap.size W1 W3 ∧ Below w.heap.size w W3 ∧ Blk W3 g7 31 [.string ⟨#[42]⟩, .string ⟨#[]⟩, .string k.path, iv k.right, .bool dy]) := by
    rw [← hW3, ← hg7]
    exact ⟨HV2.out.1.trans ((below_al V2 _).mono HV2.out.1.size), HV2.out.2.trans ((below_al V2 _).mono HV2.out.2.size), Blk.new V2 _ 31⟩
  have HSH : Hid (∀ q ∈ l ++ [very k.path k.right dy], q.short) := short_app HL1.out.1.2.1 ⟨(by decide : (ByteArray.mk #[42]).size ≤ 140737488355328), (by decide : (ByteArray.mk #[]).size ≤ 140737488355328), HL1.out.2.2.1⟩
  obtain ⟨F, hF⟩ : ∃ F : Nat → Bool, F = fun i => dy || deniedAt k (l.take i) := ⟨_, rfl⟩
  have HFF : Hid (∀ i, F i = (dy || deniedAt k (l.take i))) := fun i => by rw [hF]
  have HI0 : Hid (F 0 = dy) := by rw [hF]; show (dy || deniedAt k (l.take 0)) = dy; simp [deniedAt]
  clear hF
  clear hp hr q1
  rcases q2 with q2 | ⟨q2, q3⟩
  all_goals
    go_wp2
    clear hW3 hg7 q2 a4 a5
    go_loopw [41, 8] (fun u v wr => ∃ i : Nat, u = iv i ∧ v = .bool (F i) ∧ Hid (i ≤ n ∧ Below W3.heap.size W3 wr)) (fun u _ _ => n - (intOf u).toNat)
    case atStart => exact ⟨0, rfl, by rw [HI0.out], Nat.zero_le _, Below.refl _ _⟩
    case round =>
      obtain ⟨i, rfl, rfl, HI⟩ := hrel
      have HWR : Hid (Below W1.heap.size W1 wr ∧ Below w.heap.size w wr ∧ Blk wr g7 31 [.string ⟨#[42]⟩, .string ⟨#[]⟩, .string k.path, iv k.right, .bool dy]) := ⟨K3.out.1.trans (HI.out.2.mono K3.out.1.size), K3.out.2.1.trans (HI.out.2.mono K3.out.2.1.size), K3.out.2.2.below HI.out.2 K3.out.2.2.lt⟩
      by_cases hi : i = n
      · have q5 : (n : Int) ≤ (i : Int) := by omega
        have HT : Hid (l.take i = l) := by show _ = _; rw [hi, ← HL1.out.1.1, List.take_length]
        have HEQ : Hid (dec (l ++ [very k.path k.right dy]) k = !(F i)) := by show _ = _; rw [HFF.out i, HT.out]; exact HQ.out l
        generalize F i = dn at HEQ ⊢
        clear hi
        go_wp2_with fail
        refine near_dec (k := k) (r := very k.path k.right dy) ((HL1.out.1.below HWR.out.1).rd) HN.out HSH.out HWR.out.2.2 (K1.out.2.below HWR.out.1 K1.out.2.lt) (HL1.out.2.below HWR.out.1) (HL1.out.1.below HWR.out.1) HN1.out HEQ.out ?_
        intro V5 q6 q7 v5 a5 c5 hV5
        have HV5 : Hid (Below w.heap.size w V5) := HWR.out.2.1.trans (hV5.mono HWR.out.2.1.size)
        clear hV5
        go_wp2
        go_ret
        exact ⟨rfl, HV5.out⟩
      · have q5 : (i : Int) < (n : Int) := by have := HI.out.1; omega
        have HI2 : Hid (i < n) := by show _ < _; have := HI.out.1; omega
        obtain ⟨b, off, ha, hbl, hc⟩ := HL1.out.1.2.2 (by have := HI2.out; omega)
        subst ha
        obtain ⟨r, hr⟩ : ∃ r, l[i]? = some r := ⟨_, List.getElem?_eq_getElem (by rw [HL1.out.1.1]; exact HI2.out)⟩
        have hcr : wr.rangeAt b (off + i * 5) r.cells := fun j v hj => (HWR.out.1.cell (p := ⟨b, off + i * 5 + j, none⟩) hbl).trans (hc i r hr j v hj)
        obtain ⟨c0, c1, c2, c3, c4⟩ := ru_at hcr
        have HDS : Hid (deniedAt k (l.take (i + 1)) = (deniedAt k (l.take i) || (r.deny && r.pre.toList == k.path.toList && matB r k.s k.ch k.path k.right))) := by
          show _ = _
          rw [List.take_add_one, hr]
          exact denied_snoc k _ r
        have HRS : Hid r.short := HL1.out.1.2.1 r (List.mem_of_getElem? hr)
        obtain ⟨W5, hW5⟩ : ∃ W5, wr.alloc (.cells #[.string r.who, .string r.ch, .string r.pre, iv r.right, .bool r.deny] 31) = W5 := ⟨_, rfl⟩
        obtain ⟨ag, hag⟩ : ∃ ag, wr.heap.size = ag := ⟨_, rfl⟩
        have K5 : Hid (Below W1.heap.size W1 W5 ∧ Below W3.heap.size W3 W5 ∧ Blk W5 ag 31 r.cells) := by
          rw [← hW5, ← hag]
          exact ⟨HWR.out.1.trans ((below_al wr _).mono HWR.out.1.size), HI.out.2.trans ((below_al wr _).mono HI.out.2.size), Blk.new wr _ 31⟩
        have d0 : W5.cell? ⟨ag, 0, none⟩ = some (.string r.who) := K5.out.2.2.cell rfl
        have d1 : W5.cell? ⟨ag, 1, none⟩ = some (.string r.ch) := K5.out.2.2.cell rfl
        have d2 : W5.cell? ⟨ag, 2, none⟩ = some (.string r.pre) := K5.out.2.2.cell rfl
        have d3 : W5.cell? ⟨ag, 3, none⟩ = some (iv r.right) := K5.out.2.2.cell rfl
        have d4 : W5.cell? ⟨ag, 4, none⟩ = some (.bool r.deny) := K5.out.2.2.cell rfl
        have fr := K5.out.2.2.free 4
        have HAG : Hid (W3.heap.size ≤ ag) := by rw [← hag]; exact HI.out.2.size
        have KA := K1.out.2.below K5.out.1 K1.out.2.lt
        have a0 : W5.cell? ⟨g5, 0, none⟩ = some (.string k.s.user) := KA.cell rfl
        have a1 : W5.cell? ⟨g5, 1, none⟩ = some (.slice k.s.ta k.s.tn k.s.tc) := KA.cell rfl
        have a2 : W5.cell? ⟨g5, 2, none⟩ = some (iv k.s.role) := KA.cell rfl
        have a3 : W5.cell? ⟨g5, 3, none⟩ = some (.string k.ch) := KA.cell rfl
        have a4 : W5.cell? ⟨g5, 4, none⟩ = some (.string k.path) := KA.cell rfl
        have a5 : W5.cell? ⟨g5, 5, none⟩ = some (iv k.right) := KA.cell rfl
        have HM := matches_is r HRS.out k.s k.ch k.path k.right W5 (HL1.out.2.below K5.out.1).1 HL1.out.2.2.1
        obtain ⟨rd, hrd⟩ : ∃ rd, r.deny = rd := ⟨_, rfl⟩
        obtain ⟨re, heq⟩ : ∃ re, (r.pre.toList == k.path.toList) = re := ⟨_, rfl⟩
        obtain ⟨rm, hrm⟩ : ∃ rm, matB r k.s k.ch k.path k.right = rm := ⟨_, rfl⟩
        rw [hrm] at HM
        have HNX : Hid (F (i + 1) = (F i || (rd && re && rm))) := by
          show _ = _
          rw [HFF.out (i + 1), HFF.out i, HDS.out, hrd, heq, hrm, Bool.or_assoc]
        have HM2 : Calls Try.prog 13 #[.agg #[.string r.who, .string r.ch, .string r.pre, iv r.right, .bool rd], .agg #[.string k.s.user, .slice k.s.ta k.s.tn k.s.tc, iv k.s.role], .string k.ch, .string k.path, iv k.right] W5 fun e w' => e = .returned (.bool rm) ∧ Below W5.heap.size W5 w' := by rw [← hrd]; exact HM
        rw [hrd] at d4 hW5 c4
        clear HM
        have HRD : Hid (r.deny = rd) := hrd
        clear hi hc hr hcr KA hrd hrm HDS
        generalize F i = dx at HNX ⊢
        cases dx
        · cases rd
          · go_wp2
            refine ⟨⟨i + 1, by simp, by simp [HNX.out], HI2.out, below_grown K5.out.2.1 (grown_setCell _ _ _ _) (fun j hj => by cases hj; exact HAG.out) (Nat.le_refl _)⟩, ?_⟩
            have := HI2.out
            simp only [intOf]
            omega
          · cases re
            · go_wp2
              refine ⟨⟨i + 1, by simp, by simp [HNX.out], HI2.out, K5.out.2.1⟩, ?_⟩
              have := HI2.out
              simp only [intOf]
              omega
            · go_wp2_with fail
              refine HM2.mono ?_
              rintro e W6 ⟨rfl, hb6⟩
              have HB6 : Hid (Below W3.heap.size W3 W6) := K5.out.2.1.trans (hb6.mono K5.out.2.1.size)
              clear HM2 hb6 d0 d1 d2 d3 d4 a0 a1 a2 a3 a4 a5 hW5 hag
              go_wp2
              refine ⟨⟨i + 1, by simp, by simp [HNX.out], HI2.out, HB6.out⟩, ?_⟩
              have := HI2.out
              simp only [intOf]
              omega
        · go_wp2
          refine ⟨⟨i + 1, by simp, by simp [HNX.out], HI2.out, K5.out.2.1⟩, ?_⟩
          have := HI2.out
          simp only [intOf]
          omega
#print axioms near_law
end Go.Proofs.Ytngkajeghmogmaa.Oct
