/-
  Layer 17 (acl): the reference's Matches.
-/
import Derived.Test.YtngkajeghmogmaaRefR
namespace Go.Proofs.Ytngkajeghmogmaa.Oct
open Go.RowKit Go.Shelf

/-- who is meant, as the reference says -/
def meansR (who : BA) (s : Sj) : Bool := who.toList == [42] || who.toList == 117 :: 58 :: s.user.toList || s.teams.any (fun t => who.toList == 116 :: 58 :: t.toList)
theorem kind_name {s : BA} : s.toList = (s.extract 0 2).toList ++ (s.extract 2 s.size).toList := by
  rw [toList_is, toList_is, toList_is, Lib.extract_data, Lib.extract_data]
  have := size_list s
  simp only [List.drop_zero, Nat.sub_zero]
  rw [List.take_of_length_le (l := s.data.toList.drop 2) (by simp)]
  exact (List.take_append_drop 2 _).symm
theorem two_eq {a b : UInt8} {s x : BA} (h : 2 ≤ s.size) : (s.toList == a :: b :: x.toList) = ((s.extract 0 2).toList == [a, b] && (s.extract 2 s.size).toList == x.toList) := by
  have hl : (s.extract 0 2).toList.length = 2 := by
    rw [toList_is, Lib.extract_data]
    have := size_list s
    simp
    omega
  rw [kind_name (s := s)]
  obtain ⟨p, q, e⟩ : ∃ p q, (s.extract 0 2).toList = [p, q] := by
    match hq : (s.extract 0 2).toList, hl with
    | [p, q], _ => exact ⟨p, q, rfl⟩
  rw [e]
  rw [Bool.eq_iff_iff]
  simp [and_assoc]
theorem means_eq {who : BA} (s : Sj) (hw : whoOk who = true) : meansB who s = meansR who s := by
  unfold meansR
  by_cases h : who.size ≤ 2
  · have h1 : (who.toList == [42]) = true := by rw [← who_small h]; exact hw
    unfold meansB
    rw [kind_small h, h1]
    simp
  · have h2 : 2 < who.size := by omega
    have hk : kindOf who = who.extract 0 2 := by unfold kindOf; rw [Nat.min_eq_right (by omega)]
    have hn : nameOf who = who.extract 2 who.size := by unfold nameOf; rw [Nat.min_eq_right (by omega)]
    have h42 : ((who.extract 0 2).toList == [42]) = false := by
      rw [beq_eq_false_iff_ne]
      intro e
      have := len_kind h2
      rw [e] at this
      simp at this
    rw [not_star h2, two_eq (by omega)]
    unfold meansB among
    rw [hk, hn, h42]
    simp only [Bool.false_eq_true, if_false, Bool.false_or]
    rw [who_big h2] at hw
    have ht : s.teams.any (fun t => who.toList == 116 :: 58 :: t.toList) = ((who.extract 0 2).toList == [116, 58] && s.teams.any (fun t => (who.extract 2 who.size).toList == t.toList)) := by
      rw [Bool.eq_iff_iff]
      simp only [List.any_eq_true, Bool.and_eq_true]
      constructor
      · rintro ⟨t, ht, he⟩
        rw [two_eq (by omega), Bool.and_eq_true] at he
        exact ⟨he.1, t, ht, he.2⟩
      · rintro ⟨h3, t, ht, he⟩
        exact ⟨t, ht, by rw [two_eq (by omega), h3, he]; rfl⟩
    rw [ht]
    cases h3 : ((who.extract 0 2).toList == [117, 58])
    · cases h4 : ((who.extract 0 2).toList == [116, 58])
      · simp
      · simp
    · have h4 : ((who.extract 0 2).toList == [116, 58]) = false := by
        rw [beq_eq_false_iff_ne]
        rw [beq_iff_eq] at h3
        rw [h3]
        decide
      rw [h4]
      simp
#print axioms means_eq
def matR (r : Ru) (s : Sj) (ch path : BA) (right : Int) : Bool := ruleOk r && r.right == right && (emp r.ch || r.ch.toList == ch.toList) && cov r.pre path && meansR r.who s
theorem mat_eq (r : Ru) (s : Sj) (ch path : BA) (right : Int) : matR r s ch path right = matB r s ch path right := by
  unfold matR matB
  cases h : ruleOk r
  · simp
  · have : whoOk r.who = true := by
      unfold ruleOk at h
      simp only [Bool.and_eq_true] at h
      exact h.1.1.1
    rw [means_eq s this]
set_option maxRecDepth 100000 in
set_option maxHeartbeats 2000000 in
theorem refMatches_is (r : Ru) (hr : r.short) (s : Sj) (ch path : BA) (right : Int) (w : World) (hs : s.at w) (hp : path.size ≤ 140737488355328) (hu : s.user.size ≤ 140737488355328) (ht : ∀ t ∈ s.teams, t.size ≤ 140737488355328) : Calls Try.prog 14 #[ruv r, sv s, .string ch, .string path, iv right] w fun e w' => e = .returned (.bool (matR r s ch path right)) ∧ Below w.heap.size w w' := by
  obtain ⟨g, hg⟩ : ∃ g, w.heap.size = g := ⟨_, rfl⟩
  obtain ⟨g1, hg1⟩ : ∃ g1, g + 1 = g1 := ⟨_, rfl⟩
  obtain ⟨W1, hW1⟩ : ∃ W1, (w.alloc (.cells #[.string r.who, .string r.ch, .string r.pre, iv r.right, .bool r.deny] 31)).alloc (.cells #[.string s.user, .slice s.ta s.tn s.tc, iv s.role] 25) = W1 := ⟨_, rfl⟩
  have K1 : Hid (Kp w g 31 [.string r.who, .string r.ch, .string r.pre, iv r.right, .bool r.deny] W1 ∧ Kp w g1 25 [.string s.user, .slice s.ta s.tn s.tc, iv s.role] W1) := by
    rw [← hW1, ← hg1, ← hg]
    have h1 := Kp.new w #[.string r.who, .string r.ch, .string r.pre, iv r.right, .bool r.deny] 31
    have h2 := h1.step (below_al _ (.cells #[.string s.user, .slice s.ta s.tn s.tc, iv s.role] 25))
    refine ⟨h2, h2.1, ?_⟩
    have := Blk.new (w.alloc (.cells #[.string r.who, .string r.ch, .string r.pre, iv r.right, .bool r.deny] 31)) #[.string s.user, .slice s.ta s.tn s.tc, iv s.role] 25
    rw [World.size_alloc] at this
    exact this
  have HR := refRight_is r hr W1
  have HCV := fun b (h : cov r.pre path = b) W => refCovers_any r.pre path b h W hp
  have HST : Hid (s.at W1) := hs.below K1.out.1.1
  obtain ⟨m, hm⟩ : ∃ m, matR r s ch path right = m := ⟨_, rfl⟩
  rw [hm]
  unfold matR at hm
  have E2 := emp_eq r.ch
  have F2 : r.ch.toList.isEmpty = emp r.ch := rfl
  generalize emp r.ch = b3 at E2 F2 hm
  generalize hq : (r.ch.toList == ch.toList) = b4 at hm
  generalize hq2 : (r.right == right) = b2 at hm
  generalize ruleOk r = b1 at HR hm
  obtain ⟨b5, hb5⟩ : ∃ b, cov r.pre path = b := ⟨_, rfl⟩
  have HCV := HCV b5 hb5
  rw [hb5] at hm
  have hq' : (r.ch.toList != ch.toList) = !b4 := by simp only [bne, hq]
  have hq2' : (r.right != right) = !b2 := by simp only [bne, hq2]
  have E2' : (r.ch.toList != []) = !b3 := by simp only [bne, E2]
  have HE : Hid (((r.ch.toList == []) = b3 ∧ r.ch.toList.isEmpty = b3 ∧ (r.ch.toList != []) = !b3) ∧ ((r.ch.toList == ch.toList) = b4 ∧ (r.ch.toList != ch.toList) = !b4) ∧ (r.right == right) = b2 ∧ (r.right != right) = !b2) := ⟨⟨E2, F2, E2'⟩, ⟨hq, hq'⟩, hq2, hq2'⟩
  have HM : Hid ((b1 && b2 && (b3 || b4) && b5 && meansR r.who s) = m) := hm
  have HUS : Hid (∀ t ∈ s.teams, t.size ≤ 140737488355328) := ht
  have qu : 2 + (s.user.size : Int) ≤ 9223372036854775807 := by omega
  have qu2 : 2 + s.user.size ≤ 9223372036854775807 := by omega
  clear E2 F2 hq hq2 hr hs hp hm hb5 hq' hq2' E2' hu ht
  have c0 : W1.cell? ⟨g, 0, none⟩ = some (.string r.who) := K1.out.1.2.cell rfl
  have c1 : W1.cell? ⟨g, 1, none⟩ = some (.string r.ch) := K1.out.1.2.cell rfl
  have c2 : W1.cell? ⟨g, 2, none⟩ = some (.string r.pre) := K1.out.1.2.cell rfl
  have c3 : W1.cell? ⟨g, 3, none⟩ = some (iv r.right) := K1.out.1.2.cell rfl
  have c4 : W1.cell? ⟨g, 4, none⟩ = some (.bool r.deny) := K1.out.1.2.cell rfl
  go_enter Try.func14, Try.ntmps14
  go_wp2_with fail
  refine HR.mono ?_
  rintro e w1 ⟨rfl, hb1⟩
  have K2 : Hid (Kp w g 31 [.string r.who, .string r.ch, .string r.pre, iv r.right, .bool r.deny] w1 ∧ Kp w g1 25 [.string s.user, .slice s.ta s.tn s.tc, iv s.role] w1 ∧ Below W1.heap.size W1 w1) := ⟨K1.out.1.step hb1, K1.out.2.step hb1, hb1⟩
  clear HR hb1 hW1 hg hg1 c0 c1 c2 c3 c4
  have d1 : w1.cell? ⟨g, 1, none⟩ = some (.string r.ch) := K2.out.1.2.cell rfl
  have d2 : w1.cell? ⟨g, 2, none⟩ = some (.string r.pre) := K2.out.1.2.cell rfl
  have d3 : w1.cell? ⟨g, 3, none⟩ = some (iv r.right) := K2.out.1.2.cell rfl
  obtain ⟨⟨e1, e2, e3⟩, ⟨e4, e5⟩, e6, e7⟩ := HE.out
  cases b1
  · go_wp2
    go_ret
    exact ⟨by rw [← HM.out]; rfl, K2.out.1.1⟩
  cases b2
  · go_wp2
    go_ret
    exact ⟨by rw [← HM.out]; rfl, K2.out.1.1⟩
  have HMM : Hid ((b3 || b4) = false → m = false) := fun h => by rw [← HM.out, h]; rfl
  by_cases h34 : (b3 || b4) = false
  · have h3 : b3 = false := by cases b3 <;> simp_all
    have h4 : b4 = false := by cases b4 <;> simp_all
    subst h3 h4
    go_wp2
    go_ret
    exact ⟨by rw [HMM.out rfl]; rfl, K2.out.1.1⟩
  have HM2 : Hid ((b5 && meansR r.who s) = m) := by
    have h34' : (b3 || b4) = true := by cases h : (b3 || b4) <;> simp_all
    have := HM.out
    rw [h34'] at this
    show _ = _
    simpa using this
  have e34 : b3 = true ∨ (b3 = false ∧ b4 = true) := by cases b3 <;> cases b4 <;> simp_all
  clear HM HMM h34
  obtain ⟨bs, hbs⟩ : ∃ b, (r.who.toList == [42]) = b := ⟨_, rfl⟩
  obtain ⟨bu, hbu⟩ : ∃ b, (r.who.toList == 117 :: 58 :: s.user.toList) = b := ⟨_, rfl⟩
  have HM3 : Hid (m = (b5 && (bs || bu || s.teams.any (fun t => r.who.toList == 116 :: 58 :: t.toList)))) := by
    show _ = _
    rw [← HM2.out]
    unfold meansR
    rw [hbs, hbu]
  have cat2 : ∀ (a b : UInt8) (x : BA), ((⟨#[a, b]⟩ : ByteArray) ++ x).toList = a :: b :: x.toList := fun a b x => by
    rw [toList_is, toList_is]
    simp [ByteArray.data_append]
  have hbu2 : (r.who.toList == ((⟨#[117, 58]⟩ : ByteArray) ++ s.user).toList) = bu := by rw [cat2, hbu]
  clear HM2
  rcases e34 with rfl | ⟨rfl, rfl⟩
  all_goals
    go_wp2_with fail
    refine (HCV _).mono ?_
    rintro e w3 ⟨rfl, hb3⟩
    have K3 : Hid (Kp w g 31 [.string r.who, .string r.ch, .string r.pre, iv r.right, .bool r.deny] w3 ∧ Kp w g1 25 [.string s.user, .slice s.ta s.tn s.tc, iv s.role] w3 ∧ Below W1.heap.size W1 w3) := ⟨K2.out.1.step hb3, K2.out.2.1.step hb3, K2.out.2.2.trans (hb3.mono K2.out.2.2.size)⟩
    clear d1 d2 d3 hb3
    have d0 : w3.cell? ⟨g, 0, none⟩ = some (.string r.who) := K3.out.1.2.cell rfl
    have f0 : w3.cell? ⟨g1, 0, none⟩ = some (.string s.user) := K3.out.2.1.2.cell rfl
    have f1 : w3.cell? ⟨g1, 1, none⟩ = some (.slice s.ta s.tn s.tc) := K3.out.2.1.2.cell rfl
    cases b5
    · go_wp2
      go_ret
      exact ⟨by rw [HM3.out]; rfl, K3.out.1.1⟩
    cases bs
    · cases bu
      · go_wp2
        have HS3 : Hid (s.at w3) := HST.out.below K3.out.2.2
        obtain ⟨user, ta, tn, tc, role, teams⟩ := s
        dsimp only at *
        have qt : (tn : Int) ≤ 140737488355328 := by have := HS3.out.2; dsimp only at this; omega
        go_loopw [11] (fun u wr => ∃ i : Nat, u = iv i ∧ i ≤ tn ∧ Hid ((teams.take i).any (fun t => r.who.toList == 116 :: 58 :: t.toList) = false) ∧ Hid (Below w3.heap.size w3 wr)) (fun u _ => tn - (intOf u).toNat)
        case atStart => exact ⟨0, rfl, by omega, rfl, Below.refl _ _⟩
        case round =>
          obtain ⟨i, rfl, hi, hal, hww⟩ := hrel
          have K4 : Hid (Kp w g 31 [.string r.who, .string r.ch, .string r.pre, iv r.right, .bool r.deny] wr ∧ Kp w g1 25 [.string user, .slice ta tn tc, iv role] wr) := ⟨K3.out.1.step hww.out, K3.out.2.1.step hww.out⟩
          clear d0 f0 f1
          have d0 : wr.cell? ⟨g, 0, none⟩ = some (.string r.who) := K4.out.1.2.cell rfl
          have f1 : wr.cell? ⟨g1, 1, none⟩ = some (.slice ta tn tc) := K4.out.2.2.cell rfl
          have b1 : (i : Int) ≤ 140737488355328 := by omega
          have HL : Hid (teams.length = tn) := HS3.out.1.1
          by_cases hlt : i = tn
          · subst hlt
            have HC : Hid (teams.any (fun t => r.who.toList == 116 :: 58 :: t.toList) = false) := by
              have := hal.out
              rw [List.take_of_length_le (by rw [HL.out]; exact Nat.le_refl _)] at this
              exact this
            go_wp2_with fail
            go_ret
            exact ⟨by rw [HM3.out, HC.out]; rfl, K4.out.1.1⟩
          · have q4 : (i : Int) < (tn : Int) := by omega
            have HT : Hid (i < tn) := by show i < tn; omega
            obtain ⟨bk, off, rfl, hbs1, hcell1⟩ := HS3.out.1.2 (by show 0 < tn; omega)
            obtain ⟨x, hx⟩ : ∃ x, teams[i]? = some x := ⟨_, List.getElem?_eq_getElem (by rw [HL.out]; exact HT.out)⟩
            have HX : Hid (teams[i]? = some x) := hx
            have hcx : wr.cell? ⟨bk, off + i, none⟩ = some (.string x) := (hww.out.cell (p := ⟨bk, off + i, none⟩) hbs1).trans (hcell1 i x hx)
            have qx : x.size ≤ 140737488355328 := HUS.out x (List.mem_of_getElem? hx)
            have qx1 : 2 + (x.size : Int) ≤ 9223372036854775807 := by omega
            have qx2 : 2 + x.size ≤ 9223372036854775807 := by omega
            obtain ⟨bt, hbt⟩ : ∃ b, (r.who.toList == 116 :: 58 :: x.toList) = b := ⟨_, rfl⟩
            have hbt2 : (r.who.toList == ((⟨#[116, 58]⟩ : ByteArray) ++ x).toList) = bt := by rw [cat2, hbt]
            have HBT : Hid ((r.who.toList == 116 :: 58 :: x.toList) = bt) := hbt
            clear hlt hcell1 hbs1 hx qx
            cases bt
            · go_wp2_with fail
              go_quiet (fail)
              go_wp2_with fail
              go_roundw
              case rel =>
                refine ⟨i + 1, by simp, by have := HT.out; omega, ?_, ⟨hww.out.os, hww.out.tape, hww.out.output, hww.out.size, hww.out.block⟩⟩
                show _ = _
                rw [List.take_add_one, HX.out, List.any_append, hal.out]
                simp [HBT.out]
              case measure => have := HT.out; simp [intOf]; omega
            · have HC : Hid (teams.any (fun t => r.who.toList == 116 :: 58 :: t.toList) = true) := List.any_eq_true.2 ⟨x, List.mem_of_getElem? HX.out, HBT.out⟩
              go_wp2_with fail
              go_quiet (fail)
              go_wp2_with fail
              go_ret
              exact ⟨by rw [HM3.out, HC.out]; rfl, K4.out.1.1.trans ((below_drewN _ wr _).mono K4.out.1.1.size)⟩
      · go_wp2
        go_ret
        exact ⟨by rw [HM3.out]; rfl, K3.out.1.1⟩
    · go_wp2
      go_ret
      exact ⟨by rw [HM3.out]; rfl, K3.out.1.1⟩
#print axioms refMatches_is
end Go.Proofs.Ytngkajeghmogmaa.Oct
