/-
  Layer 17 (acl): the reference's Right.
-/
import Derived.Test.YtngkajeghmogmaaDec
namespace Go.Proofs.Ytngkajeghmogmaa.Oct
open Go.RowKit Go.Shelf

theorem kind_small {s : BA} (h : s.size ≤ 2) : (kindOf s).toList = s.toList := by
  unfold kindOf
  rw [Nat.min_eq_left h, toList_is, toList_is, Lib.extract_data, size_list]
  simp only [List.drop_zero, Nat.sub_zero, List.take_length]
theorem name_small {s : BA} (h : s.size ≤ 2) : (nameOf s).data.toList = [] := by
  unfold nameOf
  rw [Nat.min_eq_left h, Lib.extract_data]
  simp
theorem isName_nil : isName [] = false := by decide +kernel
theorem who_small {s : BA} (h : s.size ≤ 2) : whoOk s = (s.toList == [42]) := by
  unfold whoOk
  rw [kind_small h, name_small h, isName_nil]
  simp
theorem len_kind {s : BA} (h : 2 < s.size) : (s.extract 0 2).toList.length = 2 := by
  rw [toList_is, Lib.extract_data]
  have := size_list s
  simp
  omega
theorem who_big {s : BA} (h : 2 < s.size) : whoOk s = (((s.extract 0 2).toList == [117, 58] || (s.extract 0 2).toList == [116, 58]) && isName (s.extract 2 s.size).data.toList) := by
  unfold whoOk kindOf nameOf
  rw [Nat.min_eq_right (by omega)]
  have h1 : ((s.extract 0 2).toList == [42]) = false := by
    rw [beq_eq_false_iff_ne]
    intro e
    have := len_kind h
    rw [e] at this
    simp at this
  rw [h1, Bool.false_or]
theorem not_star {s : BA} (h : 2 < s.size) : (s.toList == [42]) = false := by
  rw [beq_eq_false_iff_ne]
  intro e
  have h1 : s.toList.length = s.size := by rw [toList_is, size_list]
  rw [e] at h1
  simp at h1
  omega
set_option maxRecDepth 100000 in
set_option maxHeartbeats 4000000 in
theorem refRight_is (r : Ru) (hr : r.short) (w : World) : Calls Try.prog 12 #[ruv r] w fun e w' => e = .returned (.bool (ruleOk r)) ∧ Below w.heap.size w w' := by
  obtain ⟨who, ch, pre, rt, dn⟩ := r
  obtain ⟨g, hg⟩ : ∃ g, w.heap.size = g := ⟨_, rfl⟩
  obtain ⟨W1, hW1⟩ : ∃ W1, w.alloc (.cells #[.string who, .string ch, .string pre, iv rt, .bool dn] 31) = W1 := ⟨_, rfl⟩
  have K1 : Hid (Kp w g 31 [.string who, .string ch, .string pre, iv rt, .bool dn] W1) := by rw [← hW1, ← hg]; exact Kp.new w #[.string who, .string ch, .string pre, iv rt, .bool dn] 31
  have c0 : W1.cell? ⟨g, 0, none⟩ = some (.string who) := K1.out.2.cell rfl
  have c1 : W1.cell? ⟨g, 1, none⟩ = some (.string ch) := K1.out.2.cell rfl
  have c2 : W1.cell? ⟨g, 2, none⟩ = some (.string pre) := K1.out.2.cell rfl
  have c3 : W1.cell? ⟨g, 3, none⟩ = some (iv rt) := K1.out.2.cell rfl
  have HWS : Hid (who.size ≤ 140737488355328) := hr.1
  have HN := fun W => refName_is ch W hr.2.1
  have HP := fun W => refPath_is pre W hr.2.2
  unfold ruleOk rightOk
  dsimp only
  have E2 := emp_eq ch
  have F2 : ch.toList.isEmpty = emp ch := rfl
  have E4 := emp_eq pre
  have F4 : pre.toList.isEmpty = emp pre := rfl
  generalize isName ch.data.toList = b3 at HN ⊢
  generalize isPath pre.data.toList = b5 at HP ⊢
  generalize emp ch = b2 at E2 F2 ⊢
  generalize emp pre = b4 at E4 F4 ⊢
  generalize hr1 : (rt == 1) = b6
  generalize hr2 : (rt == 2) = b7
  have HE : Hid (((ch.toList == []) = b2 ∧ ch.toList.isEmpty = b2) ∧ ((pre.toList == []) = b4 ∧ pre.toList.isEmpty = b4) ∧ (rt == 1) = b6 ∧ (rt == 2) = b7) := ⟨⟨E2, F2⟩, ⟨E4, F4⟩, hr1, hr2⟩
  clear hr E2 F2 E4 F4 hr1 hr2
  by_cases hs : who.size ≤ 2
  · rw [who_small hs]
    generalize hb1 : (who.toList == [42]) = b1
    have q1 : ¬ (2 : Int) < (who.size : Int) := by omega
    have q2 : decide ((2 : Int) < (who.size : Int)) = false := by simp; omega
    obtain ⟨⟨e2, f2⟩, ⟨e4, f4⟩, e6, e7⟩ := HE.out
    cases b1
    · go_enter Try.func12, Try.ntmps12
      go_wp2
      go_ret
      first | exact ⟨by simp, K1.out.1⟩ | exact ⟨by simp, by have := K1.out.1; rwa [hg] at this⟩
    · cases b2
      · cases b3
        · go_enter Try.func12, Try.ntmps12
          go_wp2_with (go_at_call 26; refine (HN _).mono ?_; rintro e w2 ⟨rfl, rfl⟩)
          go_ret
          first | exact ⟨by simp, K1.out.1⟩ | exact ⟨by simp, by have := K1.out.1; rwa [hg] at this⟩
        · cases b4
          · go_enter Try.func12, Try.ntmps12
            go_wp2_with (first | (go_at_call 26; refine (HN _).mono ?_; rintro e w2 ⟨rfl, rfl⟩) | (go_at_call 27; refine Hid.out ?_))
            show Calls _ _ _ _ _
            refine (HP _).mono ?_
            rintro e w3 ⟨rfl, hb3⟩
            have K3 : Hid (Kp w g 31 [.string who, .string ch, .string pre, iv rt, .bool dn] w3) := K1.out.step hb3
            try clear hW1 hg
            clear c0 c1 c2 c3 hb3
            have c3 : w3.cell? ⟨g, 3, none⟩ = some (iv rt) := K3.out.2.cell rfl
            cases b5
            · go_wp2
              go_ret
              exact ⟨by simp, K3.out.1⟩
            · cases b6
              · cases b7
                · go_wp2
                  go_ret
                  exact ⟨by simp, K3.out.1⟩
                · go_wp2
                  go_ret
                  exact ⟨by simp, K3.out.1⟩
              · go_wp2
                go_ret
                exact ⟨by simp, K3.out.1⟩
          · cases b6
            · cases b7
              · go_enter Try.func12, Try.ntmps12
                go_wp2_with (go_at_call 26; refine (HN _).mono ?_; rintro e w2 ⟨rfl, rfl⟩)
                go_ret
                first | exact ⟨by simp, K1.out.1⟩ | exact ⟨by simp, by have := K1.out.1; rwa [hg] at this⟩
              · go_enter Try.func12, Try.ntmps12
                go_wp2_with (go_at_call 26; refine (HN _).mono ?_; rintro e w2 ⟨rfl, rfl⟩)
                go_ret
                first | exact ⟨by simp, K1.out.1⟩ | exact ⟨by simp, by have := K1.out.1; rwa [hg] at this⟩
            · go_enter Try.func12, Try.ntmps12
              go_wp2_with (go_at_call 26; refine (HN _).mono ?_; rintro e w2 ⟨rfl, rfl⟩)
              go_ret
              first | exact ⟨by simp, K1.out.1⟩ | exact ⟨by simp, by have := K1.out.1; rwa [hg] at this⟩
      · cases b4
        · go_enter Try.func12, Try.ntmps12
          go_wp2_with (first | (go_at_call 26; refine (HN _).mono ?_; rintro e w2 ⟨rfl, rfl⟩) | (go_at_call 27; refine Hid.out ?_))
          show Calls _ _ _ _ _
          refine (HP _).mono ?_
          rintro e w3 ⟨rfl, hb3⟩
          have K3 : Hid (Kp w g 31 [.string who, .string ch, .string pre, iv rt, .bool dn] w3) := K1.out.step hb3
          try clear hW1 hg
          clear c0 c1 c2 c3 hb3
          have c3 : w3.cell? ⟨g, 3, none⟩ = some (iv rt) := K3.out.2.cell rfl
          cases b5
          · go_wp2
            go_ret
            exact ⟨by simp, K3.out.1⟩
          · cases b6
            · cases b7
              · go_wp2
                go_ret
                exact ⟨by simp, K3.out.1⟩
              · go_wp2
                go_ret
                exact ⟨by simp, K3.out.1⟩
            · go_wp2
              go_ret
              exact ⟨by simp, K3.out.1⟩
        · cases b6
          · cases b7
            · go_enter Try.func12, Try.ntmps12
              go_wp2
              go_ret
              first | exact ⟨by simp, K1.out.1⟩ | exact ⟨by simp, by have := K1.out.1; rwa [hg] at this⟩
            · go_enter Try.func12, Try.ntmps12
              go_wp2
              go_ret
              first | exact ⟨by simp, K1.out.1⟩ | exact ⟨by simp, by have := K1.out.1; rwa [hg] at this⟩
          · go_enter Try.func12, Try.ntmps12
            go_wp2
            go_ret
            first | exact ⟨by simp, K1.out.1⟩ | exact ⟨by simp, by have := K1.out.1; rwa [hg] at this⟩
  · have hs2 : 2 < who.size := by omega
    rw [who_big hs2]
    have h42 := not_star hs2
    have HNM := fun W => refName_is (who.extract 2 who.size) W (by have := HWS.out; rw [ByteArray.size_extract]; omega)
    generalize isName (who.extract 2 who.size).data.toList = b1 at HNM ⊢
    generalize hx1 : ((who.extract 0 2).toList == [117, 58]) = x1
    generalize hx2 : ((who.extract 0 2).toList == [116, 58]) = x2
    have q1 : (2 : Int) < (who.size : Int) := by omega
    have q3 : 2 ≤ who.size := by omega
    obtain ⟨⟨e2, f2⟩, ⟨e4, f4⟩, e6, e7⟩ := HE.out
    cases x1
    · cases x2
      · go_enter Try.func12, Try.ntmps12
        go_wp2
        go_ret
        first | exact ⟨by simp, K1.out.1⟩ | exact ⟨by simp, by have := K1.out.1; rwa [hg] at this⟩
      · rw [Bool.false_or, Bool.true_and]
        go_enter Try.func12, Try.ntmps12
        go_wp2_with fail
        refine (HNM _).mono ?_
        rintro e w2 ⟨rfl, rfl⟩
        clear HNM
        cases b1
        · go_wp2
          go_ret
          first | exact ⟨by simp, K1.out.1⟩ | exact ⟨by simp, by have := K1.out.1; rwa [hg] at this⟩
        · cases b2
          · cases b3
            · go_wp2_with (go_at_call 26; refine (HN _).mono ?_; rintro e w2 ⟨rfl, rfl⟩)
              go_ret
              first | exact ⟨by simp, K1.out.1⟩ | exact ⟨by simp, by have := K1.out.1; rwa [hg] at this⟩
            · cases b4
              · go_wp2_with (first | (go_at_call 26; refine (HN _).mono ?_; rintro e w2 ⟨rfl, rfl⟩) | (go_at_call 27; refine Hid.out ?_))
                show Calls _ _ _ _ _
                refine (HP _).mono ?_
                rintro e w3 ⟨rfl, hb3⟩
                have K3 : Hid (Kp w g 31 [.string who, .string ch, .string pre, iv rt, .bool dn] w3) := K1.out.step hb3
                try clear hW1 hg
                clear c0 c1 c2 c3 hb3
                have c3 : w3.cell? ⟨g, 3, none⟩ = some (iv rt) := K3.out.2.cell rfl
                cases b5
                · go_wp2
                  go_ret
                  exact ⟨by simp, K3.out.1⟩
                · cases b6
                  · cases b7
                    · go_wp2
                      go_ret
                      exact ⟨by simp, K3.out.1⟩
                    · go_wp2
                      go_ret
                      exact ⟨by simp, K3.out.1⟩
                  · go_wp2
                    go_ret
                    exact ⟨by simp, K3.out.1⟩
              · cases b6
                · cases b7
                  · go_wp2_with (go_at_call 26; refine (HN _).mono ?_; rintro e w2 ⟨rfl, rfl⟩)
                    go_ret
                    first | exact ⟨by simp, K1.out.1⟩ | exact ⟨by simp, by have := K1.out.1; rwa [hg] at this⟩
                  · go_wp2_with (go_at_call 26; refine (HN _).mono ?_; rintro e w2 ⟨rfl, rfl⟩)
                    go_ret
                    first | exact ⟨by simp, K1.out.1⟩ | exact ⟨by simp, by have := K1.out.1; rwa [hg] at this⟩
                · go_wp2_with (go_at_call 26; refine (HN _).mono ?_; rintro e w2 ⟨rfl, rfl⟩)
                  go_ret
                  first | exact ⟨by simp, K1.out.1⟩ | exact ⟨by simp, by have := K1.out.1; rwa [hg] at this⟩
          · cases b4
            · go_wp2_with (first | (go_at_call 26; refine (HN _).mono ?_; rintro e w2 ⟨rfl, rfl⟩) | (go_at_call 27; refine Hid.out ?_))
              show Calls _ _ _ _ _
              refine (HP _).mono ?_
              rintro e w3 ⟨rfl, hb3⟩
              have K3 : Hid (Kp w g 31 [.string who, .string ch, .string pre, iv rt, .bool dn] w3) := K1.out.step hb3
              try clear hW1 hg
              clear c0 c1 c2 c3 hb3
              have c3 : w3.cell? ⟨g, 3, none⟩ = some (iv rt) := K3.out.2.cell rfl
              cases b5
              · go_wp2
                go_ret
                exact ⟨by simp, K3.out.1⟩
              · cases b6
                · cases b7
                  · go_wp2
                    go_ret
                    exact ⟨by simp, K3.out.1⟩
                  · go_wp2
                    go_ret
                    exact ⟨by simp, K3.out.1⟩
                · go_wp2
                  go_ret
                  exact ⟨by simp, K3.out.1⟩
            · cases b6
              · cases b7
                · go_wp2
                  go_ret
                  first | exact ⟨by simp, K1.out.1⟩ | exact ⟨by simp, by have := K1.out.1; rwa [hg] at this⟩
                · go_wp2
                  go_ret
                  first | exact ⟨by simp, K1.out.1⟩ | exact ⟨by simp, by have := K1.out.1; rwa [hg] at this⟩
              · go_wp2
                go_ret
                first | exact ⟨by simp, K1.out.1⟩ | exact ⟨by simp, by have := K1.out.1; rwa [hg] at this⟩
    · rw [Bool.true_or, Bool.true_and]
      go_enter Try.func12, Try.ntmps12
      go_wp2_with fail
      refine (HNM _).mono ?_
      rintro e w2 ⟨rfl, rfl⟩
      clear HNM
      cases b1
      · go_wp2
        go_ret
        first | exact ⟨by simp, K1.out.1⟩ | exact ⟨by simp, by have := K1.out.1; rwa [hg] at this⟩
      · cases b2
        · cases b3
          · go_wp2_with (go_at_call 26; refine (HN _).mono ?_; rintro e w2 ⟨rfl, rfl⟩)
            go_ret
            first | exact ⟨by simp, K1.out.1⟩ | exact ⟨by simp, by have := K1.out.1; rwa [hg] at this⟩
          · cases b4
            · go_wp2_with (first | (go_at_call 26; refine (HN _).mono ?_; rintro e w2 ⟨rfl, rfl⟩) | (go_at_call 27; refine Hid.out ?_))
              show Calls _ _ _ _ _
              refine (HP _).mono ?_
              rintro e w3 ⟨rfl, hb3⟩
              have K3 : Hid (Kp w g 31 [.string who, .string ch, .string pre, iv rt, .bool dn] w3) := K1.out.step hb3
              try clear hW1 hg
              clear c0 c1 c2 c3 hb3
              have c3 : w3.cell? ⟨g, 3, none⟩ = some (iv rt) := K3.out.2.cell rfl
              cases b5
              · go_wp2
                go_ret
                exact ⟨by simp, K3.out.1⟩
              · cases b6
                · cases b7
                  · go_wp2
                    go_ret
                    exact ⟨by simp, K3.out.1⟩
                  · go_wp2
                    go_ret
                    exact ⟨by simp, K3.out.1⟩
                · go_wp2
                  go_ret
                  exact ⟨by simp, K3.out.1⟩
            · cases b6
              · cases b7
                · go_wp2_with (go_at_call 26; refine (HN _).mono ?_; rintro e w2 ⟨rfl, rfl⟩)
                  go_ret
                  first | exact ⟨by simp, K1.out.1⟩ | exact ⟨by simp, by have := K1.out.1; rwa [hg] at this⟩
                · go_wp2_with (go_at_call 26; refine (HN _).mono ?_; rintro e w2 ⟨rfl, rfl⟩)
                  go_ret
                  first | exact ⟨by simp, K1.out.1⟩ | exact ⟨by simp, by have := K1.out.1; rwa [hg] at this⟩
              · go_wp2_with (go_at_call 26; refine (HN _).mono ?_; rintro e w2 ⟨rfl, rfl⟩)
                go_ret
                first | exact ⟨by simp, K1.out.1⟩ | exact ⟨by simp, by have := K1.out.1; rwa [hg] at this⟩
        · cases b4
          · go_wp2_with (first | (go_at_call 26; refine (HN _).mono ?_; rintro e w2 ⟨rfl, rfl⟩) | (go_at_call 27; refine Hid.out ?_))
            show Calls _ _ _ _ _
            refine (HP _).mono ?_
            rintro e w3 ⟨rfl, hb3⟩
            have K3 : Hid (Kp w g 31 [.string who, .string ch, .string pre, iv rt, .bool dn] w3) := K1.out.step hb3
            try clear hW1 hg
            clear c0 c1 c2 c3 hb3
            have c3 : w3.cell? ⟨g, 3, none⟩ = some (iv rt) := K3.out.2.cell rfl
            cases b5
            · go_wp2
              go_ret
              exact ⟨by simp, K3.out.1⟩
            · cases b6
              · cases b7
                · go_wp2
                  go_ret
                  exact ⟨by simp, K3.out.1⟩
                · go_wp2
                  go_ret
                  exact ⟨by simp, K3.out.1⟩
              · go_wp2
                go_ret
                exact ⟨by simp, K3.out.1⟩
          · cases b6
            · cases b7
              · go_wp2
                go_ret
                first | exact ⟨by simp, K1.out.1⟩ | exact ⟨by simp, by have := K1.out.1; rwa [hg] at this⟩
              · go_wp2
                go_ret
                first | exact ⟨by simp, K1.out.1⟩ | exact ⟨by simp, by have := K1.out.1; rwa [hg] at this⟩
            · go_wp2
              go_ret
              first | exact ⟨by simp, K1.out.1⟩ | exact ⟨by simp, by have := K1.out.1; rwa [hg] at this⟩
#print axioms refRight_is
end Go.Proofs.Ytngkajeghmogmaa.Oct
