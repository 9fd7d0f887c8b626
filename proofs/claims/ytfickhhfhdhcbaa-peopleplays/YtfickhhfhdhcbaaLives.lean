/-
  Layer 15 (people): the chapter's example.
-/
import Derived.Test.YtfickhhfhdhcbaaTexts
namespace Go.Proofs.Ytfickhhfhdhcbaa.Oct
open Go.RowKit

/-- people whose blocks all are new since B -/
def PB (B : Nat) (w : World) (p : Nat) (M : Pm) : Prop := PAt w p M ∧ (∀ k ∈ M.bl p, B ≤ k) ∧ B ≤ w.heap.size
theorem PAfter.toB {B : Nat} {w w' : World} {p : Nat} {M M' : Pm} (h : PAfter w p M M' w') (hb : PB B w p M) : PB B w' p M' ∧ Below B w w' := by
  refine ⟨⟨h.1, fun k hk => ?_, Nat.le_trans hb.2.2 h.2.2.size⟩, h.2.2.toBelow hb.2.2 hb.2.1⟩
  rcases h.2.1 k hk with e | e
  · exact hb.2.1 k e
  · exact Nat.le_trans hb.2.2 e
theorem one_org {M M' : Pm} {x : Hs} {f : Og → Og → Prop} {o : Og} (h : OneIs M x f M') (hM : M.orgs = [o]) : ∃ o', f o o' ∧ M' = { M with orgs := [o'] } := by
  obtain ⟨A, o1, B, o', h1, h2, h3, rfl⟩ := h
  rw [hM] at h2
  cases A with
  | nil =>
    simp only [List.nil_append, List.cons.injEq] at h2
    obtain ⟨rfl, rfl⟩ := h2
    exact ⟨o', h3, rfl⟩
  | cons a A =>
    simp at h2
theorem one_team {o o' : Og} {t : Hs} {f : Tm → Tm → Prop} {tm : Tm} (h : TeamIs t f o o') (ho : o.teams = [tm]) : ∃ tm', f tm tm' ∧ o' = { o with teams := [tm'] } := by
  obtain ⟨A, o1, B, tm', h1, h2, h3, rfl⟩ := h
  rw [ho] at h2
  cases A with
  | nil =>
    simp only [List.nil_append, List.cons.injEq] at h2
    obtain ⟨rfl, rfl⟩ := h2
    exact ⟨tm', h3, rfl⟩
  | cons a A =>
    simp at h2
def ann : Hs := [97, 110, 110]
def bob : Hs := [98, 111, 98]
def orgN : Hs := [111, 114, 103]
def tN : Hs := [116]
def M1 (b : Nat) : Pm := { Pm0 b with users := [ann] }
def M2 (b : Nat) : Pm := { Pm0 b with users := [ann, bob] }
def O3 (nb : Nat) : Og := newOg orgN ann nb
def M3 (b nb : Nat) : Pm := { M2 b with orgs := [O3 nb] }
def O4 (nb : Nat) : Og := { O3 nb with roles := [(ann, 2), (bob, 1)] }
def O5 (nb tb : Nat) : Og := { O4 nb with teams := [⟨tN, tb, []⟩] }
def O6 (nb tb : Nat) : Og := { O4 nb with teams := [⟨tN, tb, [bob]⟩] }
def Mo (b : Nat) (o : Og) : Pm := { M2 b with orgs := [o] }
theorem s1 (b : Nat) : (Pm0 b).addUser ann = (0, M1 b) := by
  unfold Pm.addUser
  rw [show begins (decide (ann ∈ (Pm0 b).users)) ann = 0 from by show begins (decide (ann ∈ ([] : List Hs))) ann = 0; decide]
  rfl
theorem s2 (b : Nat) : (M1 b).addUser bob = (0, M2 b) := by
  unfold Pm.addUser
  rw [show begins (decide (bob ∈ (M1 b).users)) bob = 0 from by show begins (decide (bob ∈ [ann])) bob = 0; decide]
  rfl
theorem s3 (b : Nat) : (M2 b).addOrgE orgN ann = 0 := by
  have h : begins ((M2 b).org orgN).isSome orgN = 0 := by show begins false orgN = 0; decide
  have h2 : ann ∈ (M2 b).users := by show ann ∈ [ann, bob]; decide
  unfold Pm.addOrgE
  rw [h, if_neg (by simp), if_neg (by simpa using h2)]
  rfl
theorem s5 (b nb : Nat) : (M3 b nb).joinE orgN bob 1 = 0 := by
  show (if ¬ bob ∈ [ann, bob] then 111 else if (1 : Int) ≠ 1 ∧ (1 : Int) ≠ 2 then 2 else if (1 : Int) = 1 ∧ lastOwner [(ann, 2)] bob = true then 151 else 0) = (0 : Int)
  decide
theorem s6 (b nb : Nat) : (Mo b (O4 nb)).teamE orgN tN = 0 := by
  show teamE [] tN = 0
  decide
#print axioms s6

set_option maxRecDepth 100000 in
set_option maxHeartbeats 1000000 in
theorem lives_is (w : World) : Calls Try.prog 9 #[] w fun e w' => e = .returned (.bool true) ∧ Below w.heap.size w w' := by
  have hbx := run_bs27
  go_enter Try.func9, Try.ntmps9
  go_wp2_with fail
  refine (new_is w).mono ?_
  rintro e w1 ⟨rfl, h1, hb1⟩
  obtain ⟨b, hb⟩ : ∃ b, w.heap.size = b := ⟨_, rfl⟩
  have HP1 : Hid (PB w.heap.size w1 (b + 1 + 1) (Pm0 b) ∧ Below w.heap.size w w1) := by
    rw [← hb]
    refine ⟨⟨h1, fun k hk => ?_, hb1.size⟩, hb1⟩
    simp only [Pm.bl, Pm.hp, Pm0, List.flatMap_nil, List.map_cons, List.map_nil, List.mem_cons, List.not_mem_nil, or_false] at hk
    omega
  rw [hb]
  obtain ⟨p, hp⟩ : ∃ p, b + 1 + 1 = p := ⟨_, rfl⟩
  rw [hp] at HP1 ⊢
  clear h1 hb1 hb hp
  go_wp2_with fail
  refine (addUser_is HP1.out.1.1 ann (by decide)).mono ?_
  rintro e w2 ⟨rfl, h2⟩
  rw [s1] at h2 ⊢
  have HP2 : Hid (PB w.heap.size w2 p (M1 b) ∧ Below w.heap.size w w2) := ⟨(h2.toB HP1.out.1).1, HP1.out.2.trans (h2.toB HP1.out.1).2⟩
  clear h2
  go_wp2_with fail
  refine (addUser_is HP2.out.1.1 bob (by decide)).mono ?_
  rintro e w3 ⟨rfl, h3⟩
  rw [s2] at h3 ⊢
  have HP3 : Hid (PB w.heap.size w3 p (M2 b) ∧ Below w.heap.size w w3) := ⟨(h3.toB HP2.out.1).1, HP2.out.2.trans (h3.toB HP2.out.1).2⟩
  clear h3
  go_wp2_with fail
  refine (addOrg_is HP3.out.1.1 orgN ann (by decide) (by decide)).mono ?_
  rintro e w4 ⟨rfl, h4⟩
  rw [s3] at h4 ⊢
  obtain ⟨nb, h4⟩ : ∃ nb, PAfter w3 p (M2 b) (M3 b nb) w4 := by
    rcases h4 with ⟨h, _⟩ | ⟨_, nb, h⟩
    · exact absurd rfl h
    · exact ⟨nb, h⟩
  have HP4 : Hid (PB w.heap.size w4 p (M3 b nb) ∧ Below w.heap.size w w4) := ⟨(h4.toB HP3.out.1).1, HP3.out.2.trans (h4.toB HP3.out.1).2⟩
  clear h4
  go_wp2_with fail
  refine (leave_last HP4.out.1.1 orgN ann (by decide) (by decide) (o := O3 nb) rfl rfl rfl).mono ?_
  rintro e w5 ⟨rfl, h5⟩
  have HP5 : Hid (PB w.heap.size w5 p (M3 b nb) ∧ Below w.heap.size w w5) := ⟨(h5.toB HP4.out.1).1, HP4.out.2.trans (h5.toB HP4.out.1).2⟩
  clear h5
  go_wp2_with fail
  refine (join_is HP5.out.1.1 orgN bob 1 (by decide) (by decide)).mono ?_
  rintro e w6 ⟨rfl, M', h6, h6'⟩
  have h66 := h6'.out
  rw [s5] at h66 ⊢
  obtain rfl : M' = Mo b (O4 nb) := by
    rcases h66 with ⟨h, _⟩ | ⟨_, h⟩
    · exact absurd rfl h
    · obtain ⟨o', rfl, rfl⟩ := one_org h (o := O3 nb) rfl
      rfl
  have HP6 : Hid (PB w.heap.size w6 p (Mo b (O4 nb)) ∧ Below w.heap.size w w6) := ⟨(h6.toB HP5.out.1).1, HP5.out.2.trans (h6.toB HP5.out.1).2⟩
  clear h6 h6' h66
  go_wp2_with fail
  refine (addTeam_is HP6.out.1.1 orgN tN (by decide) (by decide)).mono ?_
  rintro e w7 ⟨rfl, M', h7, h7'⟩
  have h77 := h7'.out
  rw [s6] at h77 ⊢
  obtain ⟨tb, rfl⟩ : ∃ tb, M' = Mo b (O5 nb tb) := by
    rcases h77 with ⟨h, _⟩ | ⟨_, h⟩
    · exact absurd rfl h
    · obtain ⟨o', ⟨tb, rfl⟩, rfl⟩ := one_org h (o := O4 nb) rfl
      exact ⟨tb, rfl⟩
  have HP7 : Hid (PB w.heap.size w7 p (Mo b (O5 nb tb)) ∧ Below w.heap.size w w7) := ⟨(h7.toB HP6.out.1).1, HP6.out.2.trans (h7.toB HP6.out.1).2⟩
  clear h7 h7' h77
  go_wp2_with fail
  refine (put_is HP7.out.1.1 orgN tN bob (by decide) (by decide) (by decide) (o := O5 nb tb) rfl (tm := ⟨tN, tb, []⟩) rfl rfl).mono ?_
  rintro e w8 ⟨rfl, M', h8, h8'⟩
  have h88 := h8'.out
  obtain rfl : M' = Mo b (O6 nb tb) := by
    rcases h88 with ⟨h, _⟩ | ⟨_, h⟩
    · exact absurd h (by simp)
    · obtain ⟨o', h9, rfl⟩ := one_org h (o := O5 nb tb) rfl
      obtain ⟨tm', rfl, rfl⟩ := one_team h9 (tm := ⟨tN, tb, []⟩) rfl
      rfl
  have HP8 : Hid (PB w.heap.size w8 p (Mo b (O6 nb tb)) ∧ Below w.heap.size w w8) := ⟨(h8.toB HP7.out.1).1, HP7.out.2.trans (h8.toB HP7.out.1).2⟩
  clear h8 h8' h88
  rw [show (if decide (bob ∈ ({ name := tN, blk := tb, mem := [] } : Tm).mem) = true then (110 : Int) else 0) = 0 from rfl]
  go_wp2_with fail
  refine (subject_is HP8.out.1.1 orgN bob (by decide) (by decide) (o := O6 nb tb) rfl (fun tm ht => by rw [List.mem_singleton.1 (show tm ∈ [(⟨tN, tb, [bob]⟩ : Tm)] from ht)]; show tN.length ≤ _; decide)).mono ?_
  rintro e w9 ⟨a, c, rfl, h9⟩
  have hts : teamsOf (O6 nb tb).teams bob = [tN] := by
    unfold teamsOf sortK
    rw [show (O6 nb tb).teams.map (·.name) = [tN] from rfl, List.mergeSort_singleton]
    rfl
  rw [hts] at h9 ⊢
  have HP9 : Hid (StrAt w9 a 1 [tN] ∧ Below w.heap.size w w9) := ⟨own_str h9.out.1 rfl, HP8.out.2.trans (h9.out.2.mono HP8.out.2.size)⟩
  clear h9 hts
  have HS : Hid (StrAt (w9.alloc (.cells #[hv tN] 9)) (some ⟨w9.heap.size, 0, none⟩) 1 [tN] ∧ Below w9.heap.size w9 (w9.alloc (.cells #[hv tN] 9))) := by
    refine ⟨⟨rfl, fun _ => ⟨w9.heap.size, rfl, by simp, fun i h hh => ?_⟩⟩, (Below.refl _ w9).alloc (Nat.le_refl _) _⟩
    have hi : i < 1 := (List.getElem?_eq_some_iff.1 hh).1
    obtain rfl : i = 0 := by omega
    obtain rfl : tN = h := by simpa using hh
    exact (World.cell?_alloc_mark w9 #[hv tN] 9 (0, 0) 0).trans rfl
  go_wp2_with fail
  refine (same_same (HP9.out.1.below HS.out.2) HS.out.1 (by omega) bob 1).mono ?_
  rintro e w10 ⟨rfl, h10⟩
  have HP10 : Hid (Below w.heap.size w w10) := HP9.out.2.trans ((HS.out.2.trans (h10.mono HS.out.2.size)).mono HP9.out.2.size)
  clear h10
  go_wp2
  go_ret
  exact ⟨rfl, HP10.out⟩
#print axioms lives_is
end Go.Proofs.Ytfickhhfhdhcbaa.Oct
