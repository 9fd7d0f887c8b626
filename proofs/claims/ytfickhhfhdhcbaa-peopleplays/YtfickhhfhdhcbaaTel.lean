/-
  Layer 15 (people): what is told of people that were made.
-/
import Derived.Test.YtfickhhfhdhcbaaDop
namespace Go.Proofs.Ytfickhhfhdhcbaa.Oct
open Go.RowKit
set_option linter.unusedSimpArgs false
set_option linter.unusedVariables false

theorem own_tell {B n : Nat} {w : World} {v : Value} {l : List Hs} (h : w.ownsRow B 9 1 v n (l.map hv)) : ∃ a c, v = .slice a n c ∧ StrAt w a n l := by
  have hl : l.length = n := by have := h.1; simpa using this
  rcases h.2 with ⟨rfl, rfl⟩ | ⟨g, cap, cur, rfl, hB, hb, hr⟩
  · exact ⟨none, 0, rfl, hl, fun hp => absurd hp (by omega)⟩
  · exact ⟨_, cap, rfl, own_str h hl⟩
theorem StrAt.none (w : World) : StrAt w none 0 [] := ⟨rfl, fun h => absurd h (by omega)⟩
/-- names that are told -/
def Tol (w : World) (l : List Hs) (m : Nat) (e : Ending) (w' : World) : Prop := ∃ a n c, e = .returned (.slice a n c) ∧ Hid (StrAt w' a n l ∧ n ≤ m ∧ Below w.heap.size w w')
def usersL (M : Pm) : List Hs := sortK M.users
def orgsL (M : Pm) : List Hs := sortK (M.orgs.map (·.name))
def membersL (M : Pm) (x : Hs) : List Hs := match M.org x with
  | none => []
  | some o => sortK (o.roles.map (·.1))
def teamsL (M : Pm) (x : Hs) : List Hs := match M.org x with
  | none => []
  | some o => sortK (o.teams.map (·.name))
def subT (M : Pm) (x u : Hs) : List Hs := match M.org x with
  | none => []
  | some o => teamsOf o.teams u
def subR (M : Pm) (x u : Hs) : Int := match M.org x with
  | none => 0
  | some o => roleOf o.roles u
theorem unit_len (ks : List Hs) : (unit ks).length = ks.length := by simp [unit]
theorem orgsKv_keys (l : List Og) : (orgsKv l).map (·.1) = l.map (·.name) := by unfold orgsKv; rw [List.map_map]; rfl
section
variable {w : World} {p : Nat} {M : Pm}
set_option maxRecDepth 100000 in
theorem users_is (h : PAt w p M) : Calls Try.prog 14 #[.pointer (some ⟨p, 0, none⟩)] w (Tol w (usersL M) 64) := by
  have HM := made_is h
  have HR : Calls Try.prog 39 #[.map (some M.ub)] w (Tol w (usersL M) 64) := (rising_U h.us (by rw [unit_len]; have := h.users; omega)).mono (by
    rintro e w' ⟨v, rfl, h1, _, h2⟩
    rw [unit_keys, unit_len] at h1
    obtain ⟨a, c, rfl, h3⟩ := own_tell h1
    exact ⟨a, _, c, rfl, h3, h.users, h2⟩)
  have c0 : w.cell? ⟨p, 0, none⟩ = some (.map (some M.ub)) := h.blk.cell rfl
  obtain ⟨ub, hub⟩ : ∃ b, M.ub = b := ⟨_, rfl⟩
  rw [hub] at HR c0
  clear h hub
  go_enter Try.func14, Try.ntmps14
  go_wp2_with fail
  refine HM.mono ?_
  rintro e w2 ⟨rfl, rfl⟩
  clear HM
  go_wp2_with fail
  refine HR.mono ?_
  rintro e w3 ⟨a, n, c, rfl, HF⟩
  clear HR c0
  go_wp2
  go_ret
  exact ⟨a, n, c, rfl, HF⟩
set_option maxRecDepth 100000 in
theorem orgs_is (h : PAt w p M) : Calls Try.prog 15 #[.pointer (some ⟨p, 0, none⟩)] w (Tol w (orgsL M) 8) := by
  have HM := made_is h
  have HR : Calls Try.prog 40 #[.map (some M.ob)] w (Tol w (orgsL M) 8) := (rising_O h.os (by simp [orgsKv]; have := h.orgs; omega)).mono (by
    rintro e w' ⟨v, rfl, h1, _, h2⟩
    rw [orgsKv_keys, show (orgsKv M.orgs).length = M.orgs.length by simp [orgsKv]] at h1
    obtain ⟨a, c, rfl, h3⟩ := own_tell h1
    exact ⟨a, _, c, rfl, h3, h.orgs, h2⟩)
  have c0 : w.cell? ⟨p, 1, none⟩ = some (.map (some M.ob)) := h.blk.cell rfl
  obtain ⟨ub, hub⟩ : ∃ b, M.ob = b := ⟨_, rfl⟩
  rw [hub] at HR c0
  clear h hub
  go_enter Try.func15, Try.ntmps15
  go_wp2_with fail
  refine HM.mono ?_
  rintro e w2 ⟨rfl, rfl⟩
  clear HM
  go_wp2_with fail
  refine HR.mono ?_
  rintro e w3 ⟨a, n, c, rfl, HF⟩
  clear HR c0
  go_wp2
  go_ret
  exact ⟨a, n, c, rfl, HF⟩
set_option maxRecDepth 100000 in
theorem members_is (h : PAt w p M) (x : Hs) (hx : x.length ≤ 140737488355328) : Calls Try.prog 16 #[.pointer (some ⟨p, 0, none⟩), hv x] w (Tol w (membersL M x) 64) := by
  have HFI := find_is h x hx
  obtain ⟨ro, hro⟩ : ∃ ro, M.org x = ro := ⟨_, rfl⟩
  cases ro with
  | none =>
    have HL : Hid (membersL M x = []) := by show _ = _; unfold membersL; rw [hro]
    rw [hro] at HFI
    simp only [foundOf, Option.isSome_none, Bool.false_eq_true, if_false] at HFI
    clear h hro
    go_enter Try.func16, Try.ntmps16
    go_wp2_with fail
    refine HFI.mono ?_
    rintro e w2 ⟨rfl, rfl⟩
    clear HFI
    go_wp2
    go_ret
    exact ⟨none, 0, 0, rfl, by rw [HL.out]; exact ⟨StrAt.none _, by omega, Below.refl _ _⟩⟩
  | some o =>
    obtain ⟨hm, _⟩ := h.split hro
    have hL : membersL M x = sortK (o.roles.map (·.1)) := by unfold membersL; rw [hro]
    rw [hro] at HFI
    simp only [foundOf, Option.isSome_some, if_true] at HFI
    have HR : Calls Try.prog 42 #[.map (some o.rb)] w (Tol w (membersL M x) 64) := (rising_I (h.oroles hm) (by simp [rolesKv]; have := h.few hm; omega)).mono (by
      rintro e w' ⟨v, rfl, h1, _, h2⟩
      rw [rolesKv_keys, show (rolesKv o.roles).length = o.roles.length by simp [rolesKv], ← hL] at h1
      obtain ⟨a, c, rfl, h3⟩ := own_tell h1
      exact ⟨a, _, c, rfl, h3, h.few hm, h2⟩)
    obtain ⟨ok, hok⟩ : ∃ b, o.blk = b := ⟨_, rfl⟩
    obtain ⟨rb, hrb⟩ : ∃ b, o.rb = b := ⟨_, rfl⟩
    have c1 : w.cell? ⟨ok, 1, none⟩ = some (.map (some rb)) := by rw [← hok, ← hrb]; exact (h.oblk hm).cell rfl
    rw [hok] at HFI
    rw [hrb] at HR
    clear h hro hm hok hrb hL
    go_enter Try.func16, Try.ntmps16
    go_wp2_with fail
    refine HFI.mono ?_
    rintro e w2 ⟨rfl, rfl⟩
    clear HFI
    go_wp2_with fail
    refine HR.mono ?_
    rintro e w3 ⟨a, n, c, rfl, HF⟩
    clear HR c1
    go_wp2
    go_ret
    exact ⟨a, n, c, rfl, HF⟩
set_option maxRecDepth 100000 in
theorem teams_is (h : PAt w p M) (x : Hs) (hx : x.length ≤ 140737488355328) : Calls Try.prog 18 #[.pointer (some ⟨p, 0, none⟩), hv x] w (Tol w (teamsL M x) 8) := by
  have HFI := find_is h x hx
  obtain ⟨ro, hro⟩ : ∃ ro, M.org x = ro := ⟨_, rfl⟩
  cases ro with
  | none =>
    have HL : Hid (teamsL M x = []) := by show _ = _; unfold teamsL; rw [hro]
    rw [hro] at HFI
    simp only [foundOf, Option.isSome_none, Bool.false_eq_true, if_false] at HFI
    clear h hro
    go_enter Try.func18, Try.ntmps18
    go_wp2_with fail
    refine HFI.mono ?_
    rintro e w2 ⟨rfl, rfl⟩
    clear HFI
    go_wp2
    go_ret
    exact ⟨none, 0, 0, rfl, by rw [HL.out]; exact ⟨StrAt.none _, by omega, Below.refl _ _⟩⟩
  | some o =>
    obtain ⟨hm, _⟩ := h.split hro
    have hL : teamsL M x = sortK (o.teams.map (·.name)) := by unfold teamsL; rw [hro]
    rw [hro] at HFI
    simp only [foundOf, Option.isSome_some, if_true] at HFI
    have h8 := (h.ok o hm).teams
    have HR : Calls Try.prog 44 #[.map (some o.tb)] w (Tol w (teamsL M x) 8) := (names_is (h.oteams hm) (by omega)).mono (by
      rintro e w' ⟨a, c, rfl, h1⟩
      obtain ⟨h1, h2⟩ := h1.out
      rw [← hL] at h1
      obtain ⟨a', c', e', h3⟩ := own_tell h1
      cases e'
      exact ⟨a, _, c, rfl, h3, h8, h2⟩)
    obtain ⟨ok, hok⟩ : ∃ b, o.blk = b := ⟨_, rfl⟩
    obtain ⟨tb, htb⟩ : ∃ b, o.tb = b := ⟨_, rfl⟩
    have c1 : w.cell? ⟨ok, 0, none⟩ = some (.map (some tb)) := by rw [← hok, ← htb]; exact (h.oblk hm).cell rfl
    rw [hok] at HFI
    rw [htb] at HR
    clear h hro hm hok htb hL h8
    go_enter Try.func18, Try.ntmps18
    go_wp2_with fail
    refine HFI.mono ?_
    rintro e w2 ⟨rfl, rfl⟩
    clear HFI
    go_wp2_with fail
    refine HR.mono ?_
    rintro e w3 ⟨a, n, c, rfl, HF⟩
    clear HR c1
    go_wp2
    go_ret
    exact ⟨a, n, c, rfl, HF⟩
theorem teamsOf_len (l : List Tm) (u : Hs) : (teamsOf l u).length ≤ l.length := by
  unfold teamsOf
  refine Nat.le_trans (List.length_filter_le _ _) ?_
  rw [sortK_length, List.length_map]
  exact Nat.le_refl _
/-- names that memory reaches -/
def Sh (M : Pm) : Prop := (∀ u ∈ M.users, u.length ≤ 140737488355328) ∧ ∀ o ∈ M.orgs, o.name.length ≤ 140737488355328 ∧ ∀ t ∈ o.teams, t.name.length ≤ 140737488355328
/-- how a user is told -/
def Sub (w : World) (M : Pm) (x u : Hs) (e : Ending) (w' : World) : Prop := ∃ a n c, e = .returned (.agg #[hv u, .slice a n c, iv (subR M x u)]) ∧ Hid (StrAt w' a n (subT M x u) ∧ n ≤ 8 ∧ Below w.heap.size w w')
set_option maxRecDepth 100000 in
set_option maxHeartbeats 1000000 in
theorem sub_is (h : PAt w p M) (hsh : Sh M) (x u : Hs) (hx : x.length ≤ 140737488355328) (hu : u.length ≤ 140737488355328) : Calls Try.prog 21 #[.pointer (some ⟨p, 0, none⟩), hv x, hv u] w (Sub w M x u) := by
  obtain ⟨ro, hro⟩ : ∃ ro, M.org x = ro := ⟨_, rfl⟩
  cases ro with
  | some o =>
    obtain ⟨hm, _⟩ := h.split hro
    refine (subject_is h x u hx hu hro (hsh.2 o hm).2).mono ?_
    rintro e w' ⟨a, c, rfl, h1⟩
    refine ⟨a, _, c, by unfold subR; rw [hro], ?_⟩
    have e1 : subT M x u = teamsOf o.teams u := by unfold subT; rw [hro]
    obtain ⟨a', c', e', h3⟩ := own_tell h1.out.1
    cases e'
    exact ⟨by rw [e1]; exact h3, Nat.le_trans (teamsOf_len _ _) (h.ok o hm).teams, h1.out.2⟩
  | none =>
    obtain ⟨W, hW⟩ : ∃ W, w.alloc (.cells #[.string ⟨#[]⟩, .slice none 0 0, .int .i64 0] 42) = W := ⟨_, rfl⟩
    have hb : Below w.heap.size w W := by rw [← hW]; exact (Below.refl _ w).alloc (Nat.le_refl _) _
    have HFI := find_is (h.below hb) x hx
    rw [hro] at HFI
    simp only [foundOf, Option.isSome_none, Bool.false_eq_true, if_false] at HFI
    have H : Hid (Below w.heap.size w W ∧ Blk W w.heap.size 42 [.string ⟨#[]⟩, .slice none 0 0, .int .i64 0]) := ⟨hb, by rw [← hW]; simpa using Blk.new w #[.string ⟨#[]⟩, .slice none 0 0, .int .i64 0] 42⟩
    have HW : Hid (w.alloc (.cells #[.string ⟨#[]⟩, .slice none 0 0, .int .i64 0] 42) = W) := hW
    have hz42 : ∀ W, (zeroValue 42).run Try.prog W = .ok (.agg #[.string ⟨#[]⟩, .slice none 0 0, .int .i64 0]) W := fun W => by kernel_rfl
    obtain ⟨s, hs⟩ : ∃ s : ByteArray, hv u = .string s := ⟨_, rfl⟩
    have HS : Hid (hv u = .string s ∧ subT M x u = [] ∧ subR M x u = 0) := ⟨hs, by unfold subT; rw [hro], by unfold subR; rw [hro]⟩
    rw [hs]
    clear h hW hb hro hs hsh
    go_enter Try.func21, Try.ntmps21
    go_wp2_with fail
    rw [HW.out]
    refine HFI.mono ?_
    rintro e w2 ⟨rfl, rfl⟩
    clear HFI
    go_wp2_with (first
      | (with_reducible change wpList _ _ _ ({ dst := none, op := Op.store 42 _ _, type := _, pos := _, after := _, guard := _ } :: _) _ _
         refine Hid.out ?_)
      | fail)
    show wpList _ _ _ _ _ _
    refine wpList_store_blk rfl 42 (.tmp 6) (.tmp 18) rfl w.heap.size 0 42 _ [.string s, .slice none 0 0, .int .i64 0] rfl rfl H.out.2 (by simp) (by kernel_rfl) (by simp [Value.oneCell']) ?_
    intro V9 R1 R2
    have HV : Hid (Blk V9 w.heap.size 42 [.string s, .slice none 0 0, .int .i64 0] ∧ Below w.heap.size w V9) := ⟨R1.out, H.out.1.grown R2.out H.out.1.size (fun j hj => by cases hj; omega)⟩
    clear R1 R2
    go_wp2
    refine bodyPost_ret (results_cell_row (P := Try.prog) (p := 6) rfl _ V9 w.heap.size 42 _ (0, 0) _ rfl HV.out.1 Try.underlying42 rfl (by kernel_rfl)) rfl ?_
    refine ⟨none, 0, 0, by rw [HS.out.1, HS.out.2.2], ?_⟩
    rw [HS.out.2.1]
    exact ⟨StrAt.none _, by omega, HV.out.2⟩
end
#print axioms sub_is
end Go.Proofs.Ytfickhhfhdhcbaa.Oct
