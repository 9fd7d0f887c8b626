/-
  Layer 22 (fields): FieldsBack.
-/
import Derived.Test.YtlbcpbibcfolkaaDoorBka
namespace Go.Proofs.YtlbcpbibcfolkaaDoor.Oct
open Go.RowKit
set_option linter.unusedSimpArgs false
set_option linter.unusedVariables false

set_option maxRecDepth 100000 in
set_option maxHeartbeats 1000000 in
theorem back_law {w : World} {a : Option Addr} {n cap : Nat} {l : List Pr} (h : PsR w (.slice a l.length cap) l) (hn : l.length = n) (s : BA) (hs : s.size ≤ 140737488355328) (hE : ET w) : Calls Tryd.prog 6 #[.slice a n cap, .string s] w fun e w' => e = .returned (.bool true) ∧ Below w.heap.size w w' := by
  have HE : Hid (ET w) := hE
  have HP : Hid (PsR w (.slice a l.length cap) l ∧ l.length = n) := ⟨h, hn⟩
  have HS : Hid (s.size ≤ 140737488355328) := hs
  have q1 : (s.size : Int) ≤ 140737488355328 := by omega
  clear h hn hE hs
  go_enter Tryd.func6, Tryd.ntmps6
  go_wp2_with fail
  refine (light_is HP.out.1 HP.out.2).mono ?_
  rintro e W1 ⟨B, rfl, hl, hb1⟩
  have H1 : Hid (Below w.heap.size w W1) := hb1
  clear hb1
  cases B with
  | false =>
    clear hl
    go_wp2_with fail
    refine (lives_is W1 (HE.out.below H1.out)).mono ?_
    rintro e W ⟨rfl, hb⟩
    have HB : Hid (Below w.heap.size w W) := below_tr H1.out hb
    clear hb
    go_wp2
    go_ret
    exact ⟨rfl, HB.out⟩
  | true =>
    clear hl
    have HP1 : Hid (PsR W1 (.slice a l.length cap) l) := HP.out.1.below H1.out
    by_cases hbig : (20000 : Int) < (s.size : Int)
    · skip
      go_wp2_with fail
      refine (lives_is W1 (HE.out.below H1.out)).mono ?_
      rintro e W ⟨rfl, hb⟩
      have HB : Hid (Below w.heap.size w W) := below_tr H1.out hb
      clear hb
      go_wp2
      go_ret
      exact ⟨rfl, HB.out⟩
    have q3 : (s.size : Int) ≤ 20000 := by omega
    clear hbig q1
    go_wp2_with fail
    refine (print_is HP1.out HP.out.2).mono ?_
    rintro e W2 ⟨v2, rfl, hp2, hb2⟩
    have H2 : Hid (Below w.heap.size w W2) := below_tr H1.out hb2
    have HP2 : Hid (PsR W2 (.slice a l.length cap) l) := HP1.out.below hb2
    clear hb2
    rcases pn_cases hp2 with ⟨hl2, hx2, rfl⟩ | ⟨p2, rfl⟩
    · obtain ⟨T, hT⟩ : ∃ T : BA, ⟨(txt l).toArray⟩ = T := ⟨_, rfl⟩
      rw [hT]
      have HT : Hid (l.length ≤ 64 ∧ (txt l).length ≤ 16384 ∧ (⟨(txt l).toArray⟩ : BA) = T) := ⟨hl2, hx2, hT⟩
      clear hl2 hx2 hT hp2
      go_wp2_with fail
      refine (parse_txt l HT.out.1 HT.out.2.1 T HT.out.2.2 W2 (HE.out.below H2.out)).mono ?_
      rintro e W3 ⟨a3, c3, rfl, HM3, hb3⟩
      have H3 : Hid (Below w.heap.size w W3) := below_tr H2.out hb3
      have HP3 : Hid (PsR W3 (.slice a l.length cap) l) := HP2.out.below hb3
      clear hb3
      have HLN : Hid (l.length = n) := HP.out.2
      rw [HP.out.2]
      go_wp2_with fail
      refine (same_same HP3.out HM3.out HLN.out).mono ?_
      rintro e W4 ⟨rfl, hb4⟩
      have H0 : Hid (Below w.heap.size w W4) := below_tr H3.out hb4
      clear hb4
      go_wp2_with fail
      refine (parse_is s HS.out W4 (HE.out.below H0.out)).mono ?_
      intro e W5 hp
      obtain ⟨hp, hb5⟩ := hp
      have H5 : Hid (Below w.heap.size w W5) := below_tr H0.out hb5
      rcases hp with ⟨h0, v, rfl, ho⟩ | ⟨h0, rfl⟩
      · generalize (parF s).1.map mkP = M at ho
        obtain ⟨a5, c5, rfl⟩ := sl_of ho
        have HM : Hid (PsR W5 (.slice a5 M.length c5) M) := ho.esr
        clear ho h0 hb5
        go_wp2_with fail
        refine (print_is HM.out rfl).mono ?_
        rintro e W6 ⟨v6, rfl, hp6, hb6⟩
        have H6 : Hid (Below w.heap.size w W6) := below_tr H5.out hb6
        have HM6 : Hid (PsR W6 (.slice a5 M.length c5) M) := HM.out.below hb6
        clear hb6
        rcases pn_cases hp6 with ⟨hl6, hx6, rfl⟩ | ⟨p6, rfl⟩
        · obtain ⟨T6, hT6⟩ : ∃ T : BA, ⟨(txt M).toArray⟩ = T := ⟨_, rfl⟩
          rw [hT6]
          have HT6 : Hid (M.length ≤ 64 ∧ (txt M).length ≤ 16384 ∧ (⟨(txt M).toArray⟩ : BA) = T6) := ⟨hl6, hx6, hT6⟩
          clear hl6 hx6 hT6 hp6
          go_wp2_with fail
          refine (parse_txt M HT6.out.1 HT6.out.2.1 T6 HT6.out.2.2 W6 (HE.out.below H6.out)).mono ?_
          rintro e W7 ⟨a7, c7, rfl, HM7, hb7⟩
          have H7 : Hid (Below w.heap.size w W7) := below_tr H6.out hb7
          have HM8 : Hid (PsR W7 (.slice a5 M.length c5) M) := HM6.out.below hb7
          clear hb7
          go_wp2_with fail
          refine (same_same HM8.out HM7.out rfl).mono ?_
          rintro e W8 ⟨rfl, hb8⟩
          have H8 : Hid (Below w.heap.size w W8) := below_tr H7.out hb8
          clear hb8
          go_wp2_with fail
          refine (lives_is W8 (HE.out.below H8.out)).mono ?_
          rintro e W ⟨rfl, hb⟩
          have HB : Hid (Below w.heap.size w W) := below_tr H8.out hb
          clear hb
          go_wp2
          go_ret
          exact ⟨rfl, HB.out⟩
        · clear hp6
          go_wp2_with fail
          refine (is_gv p6 3 W6).mono ?_
          rintro e W7 ⟨rfl, hb7⟩
          have H7 : Hid (Below w.heap.size w W7) := below_tr H6.out hb7
          clear hb7
          go_wp2_with fail
          refine (lives_is W7 (HE.out.below H7.out)).mono ?_
          rintro e W ⟨rfl, hb⟩
          have HB : Hid (Below w.heap.size w W) := below_tr H7.out hb
          clear hb
          go_wp2
          go_ret
          exact ⟨rfl, HB.out⟩
      · generalize (parF s).2.2 = er at h0 ⊢
        generalize (parF s).2.1 = pl
        clear h0 hb5
        go_wp2_with fail
        refine (lives_is W5 (HE.out.below H5.out)).mono ?_
        rintro e W ⟨rfl, hb⟩
        have HB : Hid (Below w.heap.size w W) := below_tr H5.out hb
        clear hb
        go_wp2
        go_ret
        exact ⟨rfl, HB.out⟩
    · have H0 : Hid (Below w.heap.size w W2) := H2
      clear hp2
      go_wp2_with fail
      refine (parse_is s HS.out W2 (HE.out.below H0.out)).mono ?_
      intro e W5 hp
      obtain ⟨hp, hb5⟩ := hp
      have H5 : Hid (Below w.heap.size w W5) := below_tr H0.out hb5
      rcases hp with ⟨h0, v, rfl, ho⟩ | ⟨h0, rfl⟩
      · generalize (parF s).1.map mkP = M at ho
        obtain ⟨a5, c5, rfl⟩ := sl_of ho
        have HM : Hid (PsR W5 (.slice a5 M.length c5) M) := ho.esr
        clear ho h0 hb5
        go_wp2_with fail
        refine (print_is HM.out rfl).mono ?_
        rintro e W6 ⟨v6, rfl, hp6, hb6⟩
        have H6 : Hid (Below w.heap.size w W6) := below_tr H5.out hb6
        have HM6 : Hid (PsR W6 (.slice a5 M.length c5) M) := HM.out.below hb6
        clear hb6
        rcases pn_cases hp6 with ⟨hl6, hx6, rfl⟩ | ⟨p6, rfl⟩
        · obtain ⟨T6, hT6⟩ : ∃ T : BA, ⟨(txt M).toArray⟩ = T := ⟨_, rfl⟩
          rw [hT6]
          have HT6 : Hid (M.length ≤ 64 ∧ (txt M).length ≤ 16384 ∧ (⟨(txt M).toArray⟩ : BA) = T6) := ⟨hl6, hx6, hT6⟩
          clear hl6 hx6 hT6 hp6
          go_wp2_with fail
          refine (parse_txt M HT6.out.1 HT6.out.2.1 T6 HT6.out.2.2 W6 (HE.out.below H6.out)).mono ?_
          rintro e W7 ⟨a7, c7, rfl, HM7, hb7⟩
          have H7 : Hid (Below w.heap.size w W7) := below_tr H6.out hb7
          have HM8 : Hid (PsR W7 (.slice a5 M.length c5) M) := HM6.out.below hb7
          clear hb7
          go_wp2_with fail
          refine (same_same HM8.out HM7.out rfl).mono ?_
          rintro e W8 ⟨rfl, hb8⟩
          have H8 : Hid (Below w.heap.size w W8) := below_tr H7.out hb8
          clear hb8
          go_wp2_with fail
          refine (lives_is W8 (HE.out.below H8.out)).mono ?_
          rintro e W ⟨rfl, hb⟩
          have HB : Hid (Below w.heap.size w W) := below_tr H8.out hb
          clear hb
          go_wp2
          go_ret
          exact ⟨rfl, HB.out⟩
        · clear hp6
          go_wp2_with fail
          refine (is_gv p6 3 W6).mono ?_
          rintro e W7 ⟨rfl, hb7⟩
          have H7 : Hid (Below w.heap.size w W7) := below_tr H6.out hb7
          clear hb7
          go_wp2_with fail
          refine (lives_is W7 (HE.out.below H7.out)).mono ?_
          rintro e W ⟨rfl, hb⟩
          have HB : Hid (Below w.heap.size w W) := below_tr H7.out hb
          clear hb
          go_wp2
          go_ret
          exact ⟨rfl, HB.out⟩
      · generalize (parF s).2.2 = er at h0 ⊢
        generalize (parF s).2.1 = pl
        clear h0 hb5
        go_wp2_with fail
        refine (lives_is W5 (HE.out.below H5.out)).mono ?_
        rintro e W ⟨rfl, hb⟩
        have HB : Hid (Below w.heap.size w W) := below_tr H5.out hb
        clear hb
        go_wp2
        go_ret
        exact ⟨rfl, HB.out⟩
#print axioms back_law
end Go.Proofs.YtlbcpbibcfolkaaDoor.Oct
