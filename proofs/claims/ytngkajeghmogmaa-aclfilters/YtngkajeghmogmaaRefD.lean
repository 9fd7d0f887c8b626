/-
  Layer 17 (acl): the reference's Decide.
-/
import Derived.Test.YtngkajeghmogmaaRefDReg
import Derived.Test.YtngkajeghmogmaaDec
namespace Go.Proofs.Ytngkajeghmogmaa.Oct
open Go.RowKit Go.Shelf

/-- the greatest length of a prefix that matches, as the reference counts it -/
def bst (P : Ru → Bool) (l : List Ru) : Int := l.foldl (fun m r => if P r && decide (m < (r.pre.size : Int)) then (r.pre.size : Int) else m) (-1)
theorem bst_snoc (P : Ru → Bool) (l : List Ru) (r : Ru) : bst P (l ++ [r]) = if P r && decide (bst P l < (r.pre.size : Int)) then (r.pre.size : Int) else bst P l := by simp [bst]
theorem bst_nat (P : Ru → Bool) : ∀ (l : List Ru) (m : Nat), l.foldl (fun m r => if P r && decide (m < (r.pre.size : Int)) then (r.pre.size : Int) else m) (m : Int) = (((l.filter P).foldl (fun m r => max m r.pre.size) m : Nat) : Int)
  | [], m => rfl
  | r :: l, m => by
    rw [List.foldl_cons, List.filter_cons]
    cases h : P r
    · simp only [Bool.false_and, Bool.false_eq_true, if_false]
      exact bst_nat P l m
    · simp only [Bool.true_and, if_true, List.foldl_cons]
      rw [← bst_nat P l (max m r.pre.size)]
      congr 1
      by_cases hq : (m : Int) < (r.pre.size : Int)
      · simp [hq]; omega
      · simp [hq]; omega
theorem bst_is (P : Ru → Bool) : ∀ (l : List Ru), bst P l = if (l.filter P).isEmpty then -1 else ((mx (l.filter P) : Nat) : Int)
  | [] => rfl
  | r :: l => by
    unfold bst
    rw [List.foldl_cons, List.filter_cons]
    cases h : P r
    · simp only [Bool.false_and, Bool.false_eq_true, if_false]
      exact bst_is P l
    · have hd : decide ((-1 : Int) < (r.pre.size : Int)) = true := by
        rw [decide_eq_true_iff]; omega
      rw [hd]
      simp only [Bool.true_and, if_true, List.isEmpty_cons, Bool.false_eq_true, if_false]
      rw [bst_nat P l r.pre.size]
      unfold mx
      rw [List.foldl_cons, Nat.zero_max]
theorem near_any (P : Ru → Bool) (l : List Ru) (he : (l.filter P).isEmpty = false) : (near (l.filter P)).any (·.deny) = l.any (fun r => P r && ((r.pre.size : Int) == bst P l) && r.deny) := by
  rw [bst_is, he]
  unfold near
  rw [List.any_filter, List.any_filter]
  simp only [Bool.false_eq_true, if_false]
  congr 1
  funext r
  have : ((r.pre.size : Int) == ((mx (l.filter P) : Nat) : Int)) = (r.pre.size == mx (l.filter P)) := by
    rw [Bool.eq_iff_iff]; simp only [beq_iff_eq]; omega
  rw [this, Bool.and_assoc]
theorem decR_eq (l : List Ru) (s : Sj) (ch path : BA) (right : Int) : decB l s ch path right = if isPath path.data.toList && rightOk right then (if bst (fun r => matR r s ch path right) l < 0 then s.role == 2 else !(l.any (fun r => matR r s ch path right && ((r.pre.size : Int) == bst (fun r => matR r s ch path right) l) && r.deny))) else false := by
  unfold decB
  simp only [mat_eq]
  obtain ⟨P, hP⟩ : ∃ P : Ru → Bool, ∀ r, matB r s ch path right = P r := ⟨fun r => matB r s ch path right, fun _ => rfl⟩
  simp only [hP]
  change (if _ then (if (near (l.filter P)).isEmpty = true then _ else !((near (l.filter P)).any (·.deny))) else false) = if _ then (if bst P l < 0 then _ else !(l.any (fun r => P r && ((r.pre.size : Int) == bst P l) && r.deny))) else false
  congr 1
  cases he : (l.filter P).isEmpty
  · have hb : ¬ bst P l < 0 := by
      rw [bst_is, he]
      simp only [Bool.false_eq_true, if_false]
      omega
    have hn : (near (l.filter P)).isEmpty = false := by
      cases hq : (near (l.filter P)).isEmpty
      · rfl
      · rw [List.isEmpty_iff] at hq
        rw [near_nil] at hq
        rw [hq] at he
        simp at he
    rw [if_neg hb, hn, near_any P l he]
    rfl
  · have hb : bst P l < 0 := by
      rw [bst_is, he]
      simp
    have hn : (near (l.filter P)).isEmpty = true := by
      rw [List.isEmpty_iff, near_nil]
      exact List.isEmpty_iff.1 he
    rw [if_pos hb, hn]
    rfl
#print axioms decR_eq
set_option maxRecDepth 100000 in
set_option maxHeartbeats 4000000 in
theorem refDecide_is (l : List Ru) (a : Option Addr) (n cp : Nat) (s : Sj) (ch path : BA) (right : Int) (w : World) (hl : RuS w a n l) (hn : n ≤ 2199023255551) (hs : s.at w) (hp : path.size ≤ 140737488355328) (hu : s.user.size ≤ 140737488355328) (ht : ∀ t ∈ s.teams, t.size ≤ 140737488355328) :
    Calls Try.prog 16 #[.slice a n cp, sv s, .string ch, .string path, iv right] w fun e w' => e = .returned (.bool (decB l s ch path right)) ∧ Below w.heap.size w w' := by
  obtain ⟨g, hg⟩ : ∃ g, w.heap.size = g := ⟨_, rfl⟩
  obtain ⟨W1, hW1⟩ : ∃ W1, w.alloc (.cells #[.string s.user, .slice s.ta s.tn s.tc, iv s.role] 25) = W1 := ⟨_, rfl⟩
  have K1 : Hid (Kp w g 25 [.string s.user, .slice s.ta s.tn s.tc, iv s.role] W1) := by rw [← hW1, ← hg]; exact Kp.new w #[.string s.user, .slice s.ta s.tn s.tc, iv s.role] 25
  have HL1 : Hid (RuS W1 a n l ∧ s.at W1) := ⟨hl.below K1.out.1, hs.below K1.out.1⟩
  have HFT : Hid (∀ r ∈ l, Fit r s path) := fun r hr => ⟨hl.2.1 r hr, hp, hu, ht⟩
  have qn : (n : Int) ≤ 2199023255551 := by omega
  have HP := refPath_is path W1 hp
  obtain ⟨m, hm⟩ : ∃ m, decB l s ch path right = m := ⟨_, rfl⟩
  rw [hm]
  rw [decR_eq] at hm
  generalize isPath path.data.toList = b1 at HP hm
  obtain ⟨B, hB⟩ : ∃ B, bst (fun r => matR r s ch path right) l = B := ⟨_, rfl⟩
  rw [hB] at hm
  obtain ⟨F, hF⟩ : ∃ F : Nat → Int, F = fun i => bst (fun r => matR r s ch path right) (l.take i) := ⟨_, rfl⟩
  have HFF : Hid (∀ i, F i = bst (fun r => matR r s ch path right) (l.take i)) := fun i => by rw [hF]
  have HF0 : Hid (F 0 = -1) := by rw [hF]; rfl
  have HFN : Hid (F n = B) := by
    show F n = B
    rw [HFF.out n, ← hl.1, List.take_length, hB]
  have HM : Hid ((if b1 && rightOk right then (if B < 0 then s.role == 2 else !(l.any (fun r => matR r s ch path right && ((r.pre.size : Int) == B) && r.deny))) else false) = m) := hm
  clear hl hn hs hp hu ht hm hB hF
  go_enter Try.func16, Try.ntmps16
  go_wp2_with fail
  refine HP.mono ?_
  rintro e w1 ⟨rfl, hb1⟩
  have K2 : Hid (Kp w g 25 [.string s.user, .slice s.ta s.tn s.tc, iv s.role] w1 ∧ Below W1.heap.size W1 w1) := ⟨K1.out.step hb1, hb1⟩
  clear HP hb1 hW1 hg
  cases b1
  · go_wp2
    go_ret
    exact ⟨by rw [← HM.out]; rfl, K2.out.1.1⟩
  cases hr : rightOk right
  · have q1 : (right == 1) = false ∧ (right == 2) = false := by
      unfold rightOk at hr
      simpa [Bool.or_eq_false_iff] using hr
    obtain ⟨q1, q2⟩ := q1
    have q1' : (right != 1) = true := by simp only [bne, q1]; rfl
    have q2' : (right != 2) = true := by simp only [bne, q2]; rfl
    have HM0 : Hid (m = false) := by show m = false; rw [← HM.out, hr]; rfl
    clear hr
    go_wp2
    go_ret
    exact ⟨by rw [HM0.out]; rfl, K2.out.1.1⟩
  have HM2 : Hid ((if B < 0 then s.role == 2 else !(l.any (fun r => matR r s ch path right && ((r.pre.size : Int) == B) && r.deny))) = m) := by
    have := HM.out
    rw [hr] at this
    exact this
  have q1 : ((right != 1) && (right != 2)) = false := by
    unfold rightOk at hr
    simp only [bne]
    cases h1 : (right == 1) <;> simp_all
  have q2 : (right != 1) = false ∨ ((right != 1) = true ∧ (right != 2) = false) := by
    cases h1 : (right != 1)
    · exact .inl rfl
    · rw [h1] at q1
      exact .inr ⟨rfl, by simpa using q1⟩
  clear hr q1 HM
  rcases q2 with q2 | ⟨q2, q3⟩
  all_goals
    go_wp2
    clear q2
    go_loopw [12, 11] (fun u v wr => ∃ i : Nat, u = iv i ∧ v = iv (F i) ∧ Hid (i ≤ n ∧ Below w1.heap.size w1 wr)) (fun u _ _ => n - (intOf u).toNat)
    case atStart => exact ⟨0, rfl, by rw [HF0.out], Nat.zero_le _, Below.refl _ _⟩
    case round =>
      obtain ⟨i, rfl, rfl, HI⟩ := hrel
      have HWR : Hid (Below W1.heap.size W1 wr ∧ Kp w g 25 [.string s.user, .slice s.ta s.tn s.tc, iv s.role] wr) := ⟨K2.out.2.trans (HI.out.2.mono K2.out.2.size), K2.out.1.step HI.out.2⟩
      by_cases hi : i = n
      · have HFI : Hid (F i = B) := by rw [hi]; exact HFN.out
        rw [HFI.out]
        have q5 : (n : Int) ≤ (i : Int) := by omega
        clear hi
        by_cases hB : B < 0
        · have HM4 : Hid ((s.role == 2) = m) := by
            have := HM2.out
            rw [if_pos hB] at this
            exact this
          have f2 : wr.cell? ⟨g, 2, none⟩ = some (iv s.role) := HWR.out.2.2.cell rfl
          go_wp2
          go_ret
          exact ⟨by rw [HM4.out]; rfl, HWR.out.2.1⟩
        · have HM4 : Hid (m = !(l.any (fun r => matR r s ch path right && ((r.pre.size : Int) == B) && r.deny))) := by
            have := HM2.out
            rw [if_neg hB] at this
            exact this.symm
          go_wp2
          obtain ⟨W5, hW5⟩ : ∃ W5, W5 = wr := ⟨_, rfl⟩
          subst hW5
          go_loopw [13] (fun u wr => ∃ j : Nat, u = iv j ∧ Hid (j ≤ n ∧ Below W5.heap.size W5 wr ∧ (l.take j).any (fun r => matR r s ch path right && ((r.pre.size : Int) == B) && r.deny) = false)) (fun u _ => n - (intOf u).toNat)
          case atStart => exact ⟨0, rfl, Nat.zero_le _, Below.refl _ _, rfl⟩
          case round =>
            obtain ⟨j, rfl, HJ⟩ := hrel
            have HWS : Hid (Below W1.heap.size W1 wr ∧ Kp w g 25 [.string s.user, .slice s.ta s.tn s.tc, iv s.role] wr) := ⟨HWR.out.1.trans (HJ.out.2.1.mono HWR.out.1.size), HWR.out.2.step HJ.out.2.1⟩
            by_cases hj : j = n
            · have HM5 : Hid (m = true) := by
                have := HJ.out.2.2
                rw [hj, ← HL1.out.1.1, List.take_length] at this
                show m = true
                rw [HM4.out, this]
                rfl
              have q6 : (n : Int) ≤ (j : Int) := by omega
              clear hj
              go_wp2
              go_ret
              exact ⟨by rw [HM5.out]; rfl, HWS.out.2.1⟩
            · have q6 : (j : Int) < (n : Int) := by have := HJ.out.1; omega
              have HJ2 : Hid (j < n) := by show _ < _; have := HJ.out.1; omega
              obtain ⟨b, off, ha, hbl, hc⟩ := HL1.out.1.2.2 (by have := HJ2.out; omega)
              subst ha
              obtain ⟨r, hr⟩ : ∃ r, l[j]? = some r := ⟨_, List.getElem?_eq_getElem (by rw [HL1.out.1.1]; exact HJ2.out)⟩
              have HRR : Hid (wr.rangeAt b (off + j * 5) r.cells ∧ b < wr.heap.size) := ⟨fun k v hk => (HWS.out.1.cell (p := ⟨b, off + j * 5 + k, none⟩) hbl).trans (hc j r hr k v hk), Nat.lt_of_lt_of_le hbl HWS.out.1.size⟩
              have HRM : Hid (r ∈ l) := List.mem_of_getElem? hr
              have HTK : Hid ((l.take (j + 1)).any (fun r => matR r s ch path right && ((r.pre.size : Int) == B) && r.deny) = (matR r s ch path right && ((r.pre.size : Int) == B) && r.deny)) := by
                show _ = _
                rw [List.take_add_one, hr, List.any_append, HJ.out.2.2]
                simp
              clear hj hbl hc hr
              obtain ⟨mr, hmr⟩ : ∃ b, matR r s ch path right = b := ⟨_, rfl⟩
              have HMR : Hid (matR r s ch path right = mr) := hmr
              obtain ⟨cz, hcz⟩ : ∃ b, ((r.pre.size : Int) == B) = b := ⟨_, rfl⟩
              have HCZ : Hid (((r.pre.size : Int) == B) = cz) := hcz
              obtain ⟨dn, hdn⟩ : ∃ b, r.deny = b := ⟨_, rfl⟩
              have HDN : Hid (r.deny = dn) := hdn
              have HTK2 : Hid ((l.take (j + 1)).any (fun r => matR r s ch path right && ((r.pre.size : Int) == B) && r.deny) = (mr && cz && dn)) := by rw [← hmr, ← hcz, ← hdn]; exact HTK.out
              clear HTK hmr hdn
              cases mr
              · clear hcz
                go_wp2_with fail
                refine dec_reg14_f (c := true) (r := r) (s := s) HRR HWS.out.2.2 (HL1.out.2.below HWS.out.1) (HFT.out r HRM.out) q6 HMR ?_
                intro V1 hV1
                have HV1 : Hid (Below W5.heap.size W5 V1) := HJ.out.2.1.trans (hV1.mono HJ.out.2.1.size)
                clear hV1
                go_wp2_with fail
                go_roundw
                case rel => exact ⟨j + 1, by simp, HJ2.out, HV1.out, HTK2.out⟩
                case measure => have := HJ2.out; simp [intOf]; omega
              · cases cz
                · go_wp2_with fail
                  refine dec_reg14_n (c := true) (r := r) (s := s) HRR HWS.out.2.2 (HL1.out.2.below HWS.out.1) (HFT.out r HRM.out) q6 HMR hcz ?_
                  intro V1 hV1
                  have HV1 : Hid (Below W5.heap.size W5 V1) := HJ.out.2.1.trans (hV1.mono HJ.out.2.1.size)
                  clear hV1
                  go_wp2_with fail
                  go_roundw
                  case rel => exact ⟨j + 1, by simp, HJ2.out, HV1.out, HTK2.out⟩
                  case measure => have := HJ2.out; simp [intOf]; omega
                · go_wp2_with fail
                  refine dec_reg14_t (c := true) (r := r) (s := s) HRR HWS.out.2.2 (HL1.out.2.below HWS.out.1) (HFT.out r HRM.out) q6 HMR hcz ?_
                  intro V1 hV1
                  have HV1 : Hid (Below W5.heap.size W5 V1 ∧ Below w.heap.size w V1) := ⟨HJ.out.2.1.trans (hV1.mono HJ.out.2.1.size), HWS.out.2.1.trans (hV1.mono HWS.out.2.1.size)⟩
                  clear hV1
                  rw [HDN.out]
                  cases dn
                  · go_wp2_with fail
                    go_roundw
                    case rel => exact ⟨j + 1, by simp, HJ2.out, HV1.out.1, HTK2.out⟩
                    case measure => have := HJ2.out; simp [intOf]; omega
                  · have HM5 : Hid (m = false) := by
                      have : l.any (fun r => matR r s ch path right && ((r.pre.size : Int) == B) && r.deny) = true := List.any_eq_true.2 ⟨r, HRM.out, by rw [HMR.out, HCZ.out, HDN.out]; rfl⟩
                      show m = false
                      rw [HM4.out, this]
                      rfl
                    go_wp2_with fail
                    go_ret
                    exact ⟨by rw [HM5.out]; rfl, HV1.out.2⟩
      · have q5 : (i : Int) < (n : Int) := by have := HI.out.1; omega
        have HI2 : Hid (i < n) := by show _ < _; have := HI.out.1; omega
        obtain ⟨b, off, ha, hbl, hc⟩ := HL1.out.1.2.2 (by have := HI2.out; omega)
        subst ha
        obtain ⟨r, hr⟩ : ∃ r, l[i]? = some r := ⟨_, List.getElem?_eq_getElem (by rw [HL1.out.1.1]; exact HI2.out)⟩
        have HRR : Hid (wr.rangeAt b (off + i * 5) r.cells ∧ b < wr.heap.size) := ⟨fun k v hk => (HWR.out.1.cell (p := ⟨b, off + i * 5 + k, none⟩) hbl).trans (hc i r hr k v hk), Nat.lt_of_lt_of_le hbl HWR.out.1.size⟩
        have HRM : Hid (r ∈ l) := List.mem_of_getElem? hr
        have HTK : Hid (F (i + 1) = if matR r s ch path right && decide (F i < (r.pre.size : Int)) then (r.pre.size : Int) else F i) := by
          show _ = _
          rw [HFF.out (i + 1), HFF.out i, List.take_add_one, hr]
          exact bst_snoc _ _ r
        clear hi hbl hc hr
        obtain ⟨mr, hmr⟩ : ∃ b, matR r s ch path right = b := ⟨_, rfl⟩
        have HMR : Hid (matR r s ch path right = mr) := hmr
        obtain ⟨cz, hcz⟩ : ∃ b, decide (F i < (r.pre.size : Int)) = b := ⟨_, rfl⟩
        have HTK2 : Hid (F (i + 1) = if mr && cz then (r.pre.size : Int) else F i) := by rw [← hmr, ← hcz]; exact HTK.out
        clear HTK hmr
        cases mr
        · clear hcz
          go_wp2_with fail
          refine dec_reg7_f (c := true) (r := r) (s := s) HRR HWR.out.2.2 (HL1.out.2.below HWR.out.1) (HFT.out r HRM.out) q5 HMR ?_
          intro V1 hV1
          have HV1 : Hid (Below w1.heap.size w1 V1) := HI.out.2.trans (hV1.mono HI.out.2.size)
          clear hV1
          go_wp2_with fail
          go_roundw
          case rel => exact ⟨i + 1, by simp, by rw [HTK2.out]; rfl, HI2.out, HV1.out⟩
          case measure => have := HI2.out; simp [intOf]; omega
        · have HDC := hcz
          go_wp2_with fail
          refine dec_reg7_t (r := r) (s := s) HRR HWR.out.2.2 (HL1.out.2.below HWR.out.1) (HFT.out r HRM.out) q5 HMR hcz ?_
          intro V1 hV1
          have HV1 : Hid (Below w1.heap.size w1 V1) := HI.out.2.trans (hV1.mono HI.out.2.size)
          have c2 : V1.cell? ⟨b, off + i * 5 + 2, none⟩ = some (.string r.pre) := (hV1.cell (p := ⟨b, off + i * 5 + 2, none⟩) HRR.out.2).trans (ru_at HRR.out.1).2.2.1
          clear hV1 hcz HDC
          cases cz
          · go_wp2_with fail
            go_roundw
            case rel => exact ⟨i + 1, by simp, by rw [HTK2.out]; rfl, HI2.out, HV1.out⟩
            case measure => have := HI2.out; simp [intOf]; omega
          · go_wp2_with fail
            go_roundw
            case rel => exact ⟨i + 1, by simp, by rw [HTK2.out]; rfl, HI2.out, HV1.out⟩
            case measure => have := HI2.out; simp [intOf]; omega
#print axioms refDecide_is
end Go.Proofs.Ytngkajeghmogmaa.Oct
