/-
  Layer 22 (fields): FieldsParses.
-/
import Derived.Test.YtlbcpbibcfolkaaDoorRqp
namespace Go.Proofs.YtlbcpbibcfolkaaDoor.Oct
open Go.RowKit
set_option linter.unusedSimpArgs false
set_option linter.unusedVariables false

set_option maxRecDepth 100000 in
set_option maxHeartbeats 1000000 in
theorem parses_law (s : BA) (hs : s.size ≤ 140737488355328) (w : World) (hE : ET w) : Calls Tryd.prog 5 #[.string s] w fun e w' => e = .returned (.bool true) ∧ Below w.heap.size w w' := by
  have HE : Hid (ET w) := hE
  have HS : Hid (s.size ≤ 140737488355328) := hs
  have q1 : (s.size : Int) ≤ 140737488355328 := by omega
  by_cases hb : 20000 < s.size
  · have q2 : (20000 : Int) < (s.size : Int) := by omega
    clear hb hs hE
    go_enter Tryd.func5, Tryd.ntmps5
    go_wp2_with fail
    refine (lives_is w HE.out).mono ?_
    rintro e W ⟨rfl, hb⟩
    have HB : Hid (Below w.heap.size w W) := hb
    clear hb
    go_wp2
    go_ret
    exact ⟨rfl, HB.out⟩
  have q2 : (s.size : Int) ≤ 20000 := by omega
  clear hb hs hE
  go_enter Tryd.func5, Tryd.ntmps5
  go_wp2_with fail
  refine (rparse_is s HS.out w).mono ?_
  intro e W1 hr
  obtain ⟨hr, hb1⟩ := hr
  have H1 : Hid (Below w.heap.size w W1) := hb1
  clear hb1
  have C19 : Hid (Calls Tryd.prog 19 #[.string s] W1 (PrP W1 (parF s))) := parse_is s HS.out W1 (HE.out.below H1.out)
  obtain ⟨M, hM⟩ : ∃ M, (parF s).1.map mkP = M := ⟨_, rfl⟩
  obtain ⟨pl, hpl⟩ : ∃ k, (parF s).2.1 = k := ⟨_, rfl⟩
  obtain ⟨er, her⟩ : ∃ k, (parF s).2.2 = k := ⟨_, rfl⟩
  rw [hM, hpl, her] at hr
  have HP : Hid ((parF s).1.map mkP = M ∧ (parF s).2.1 = pl ∧ (parF s).2.2 = er) := ⟨hM, hpl, her⟩
  clear hM hpl her
  rcases hr with ⟨h0, v, rfl, ho⟩ | ⟨h0, rfl⟩
  · subst h0
    obtain ⟨a1, c1, rfl⟩ := sl_of ho
    have HO : Hid (PsR W1 (.slice a1 M.length c1) M) := ho.esr
    clear ho
    go_wp2_with fail
    refine C19.out.mono ?_
    intro e W2 hp
    obtain ⟨hp, hb2⟩ := hp
    rw [HP.out.1, HP.out.2.2] at hp
    have H2 : Hid (Below w.heap.size w W2) := below_tr H1.out hb2
    have HO2 : Hid (PsR W2 (.slice a1 M.length c1) M) := HO.out.below hb2
    rcases hp with ⟨_, v2, rfl, ho2⟩ | ⟨h0, _⟩
    · obtain ⟨a2, c2, rfl⟩ := sl_of ho2
      have HO3 : Hid (PsR W2 (.slice a2 M.length c2) M) := ho2.esr
      clear ho2 hb2
      go_wp2_with fail
      refine (same_same HO2.out HO3.out rfl).mono ?_
      rintro e W3 ⟨rfl, hb3⟩
      have H3 : Hid (Below w.heap.size w W3) := below_tr H2.out hb3
      clear hb3
      go_wp2_with fail
      refine (fault_nil 0 W3).mono ?_
      rintro e W4 ⟨rfl, rfl⟩
      go_wp2_with fail
      refine (lives_is W3 (HE.out.below H3.out)).mono ?_
      rintro e W5 ⟨rfl, hb5⟩
      have H5 : Hid (Below w.heap.size w W5) := below_tr H3.out hb5
      clear hb5
      go_wp2
      go_ret
      exact ⟨rfl, H5.out⟩
    · exact absurd rfl h0
  · have HNE : Hid (er ≠ 0) := h0
    clear h0
    go_wp2_with fail
    refine C19.out.mono ?_
    intro e W2 hp
    obtain ⟨hp, hb2⟩ := hp
    rw [HP.out.2.1, HP.out.2.2] at hp
    have H2 : Hid (Below w.heap.size w W2) := below_tr H1.out hb2
    rcases hp with ⟨h0, _⟩ | ⟨_, rfl⟩
    · exact absurd h0 HNE.out
    · clear hb2
      go_wp2_with fail
      refine (same_same (l := []) (PsR.nil W2) (PsR.nil W2) rfl).mono ?_
      rintro e W3 ⟨rfl, hb3⟩
      have H3 : Hid (Below w.heap.size w W3) := below_tr H2.out hb3
      clear hb3
      go_wp2_with fail
      refine (fault_yes pl er HNE.out W3).mono ?_
      rintro e W4 ⟨rfl, hb4⟩
      have H4 : Hid (Below w.heap.size w W4) := below_tr H3.out hb4
      clear hb4
      go_wp2_with fail
      refine (lives_is W4 (HE.out.below H4.out)).mono ?_
      rintro e W5 ⟨rfl, hb5⟩
      have H5 : Hid (Below w.heap.size w W5) := below_tr H4.out hb5
      clear hb5
      go_wp2
      go_ret
      exact ⟨rfl, H5.out⟩
#print axioms parses_law
end Go.Proofs.YtlbcpbibcfolkaaDoor.Oct
