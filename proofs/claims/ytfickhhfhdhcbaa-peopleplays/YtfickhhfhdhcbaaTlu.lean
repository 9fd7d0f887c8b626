/-
  Layer 15 (people): what is told lies in new memory; rows of structs.
-/
import Derived.Test.YtfickhhfhdhcbaaTmr
import Derived.Maps.AppendAt
namespace Go.Proofs.Ytfickhhfhdhcbaa.Oct
open Go.RowKit
set_option linter.unusedSimpArgs false
set_option linter.unusedVariables false

/-- a row that is new -/
def Up (B : Nat) (a : Option Addr) (n : Nat) : Prop := 0 < n → ∃ g, a = some ⟨g, 0, none⟩ ∧ B ≤ g
theorem Up.none (B : Nat) {a : Option Addr} : Up B a 0 := fun h => absurd h (by omega)
theorem own_up {B n : Nat} {w : World} {v : Value} {l : List Hs} (h : w.ownsRow B 9 1 v n (l.map hv)) : ∃ a c, v = .slice a n c ∧ StrAt w a n l ∧ Up B a n := by
  obtain ⟨a, c, rfl, h1⟩ := own_tell h
  refine ⟨a, c, rfl, h1, fun hp => ?_⟩
  rcases h.2 with ⟨_, h0⟩ | ⟨g, cap, cur, e, hB, _⟩
  · omega
  · cases e
    exact ⟨g, rfl, hB⟩
theorem StrAt.keepU {S : Nat → Prop} {w w' : World} {B n : Nat} {a : Option Addr} {l : List Hs} (h : StrAt w a n l) (hu : Up B a n) (hk : Keep S w w') (hS : ∀ g, B ≤ g → ¬ S g) : StrAt w' a n l :=
  ⟨h.1, fun hp => by
    obtain ⟨g, e, hl, hc⟩ := h.2 hp
    obtain ⟨g', e', hB⟩ := hu hp
    rw [e] at e'
    cases e'
    exact ⟨g, e, Nat.lt_of_lt_of_le hl hk.size, fun i x hx => (World.cell?_of_block (a := ⟨g, i, Option.none⟩) (hk.block g hl (hS g hB))).trans (hc i x hx)⟩⟩
def TolU (w : World) (l : List Hs) (m : Nat) (e : Ending) (w' : World) : Prop := ∃ a n c, e = .returned (.slice a n c) ∧ Hid (StrAt w' a n l ∧ n ≤ m ∧ Below w.heap.size w w' ∧ Up w.heap.size a n)
section
variable {w : World} {p : Nat} {M : Pm}
set_option maxRecDepth 100000 in
theorem users_up (h : PAt w p M) : Calls Try.prog 14 #[.pointer (some ⟨p, 0, none⟩)] w (TolU w (usersL M) 64) := by
  have HM := made_is h
  have HR : Calls Try.prog 39 #[.map (some M.ub)] w (TolU w (usersL M) 64) := (rising_U h.us (by rw [unit_len]; have := h.users; omega)).mono (by
    rintro e w' ⟨v, rfl, h1, _, h2⟩
    rw [unit_keys, unit_len] at h1
    obtain ⟨a, c, rfl, h3, hup⟩ := own_up h1
    exact ⟨a, _, c, rfl, h3, h.users, h2, hup⟩)
  have c0 : w.cell? ⟨p, 0, none⟩ = some (.map (some M.ub)) := h.blk.cell rfl
  obtain ⟨ub, hub⟩ : ∃ b, M.ub = b := ⟨_, rfl⟩
  rw [hub] at HR c0
  clear h hub
  go_enter Try.func14, Try.ntmps14
  go_wp2_with fail
  refine HM.mono ?_
  rintro e w2 ⟨rfl, rfl⟩
  clear HM
  go_wp2_with fail
  refine HR.mono ?_
  rintro e w3 ⟨a, n, c, rfl, HF⟩
  clear HR c0
  go_wp2
  go_ret
  exact ⟨a, n, c, rfl, HF⟩
set_option maxRecDepth 100000 in
theorem orgs_up (h : PAt w p M) : Calls Try.prog 15 #[.pointer (some ⟨p, 0, none⟩)] w (TolU w (orgsL M) 8) := by
  have HM := made_is h
  have HR : Calls Try.prog 40 #[.map (some M.ob)] w (TolU w (orgsL M) 8) := (rising_O h.os (by simp [orgsKv]; have := h.orgs; omega)).mono (by
    rintro e w' ⟨v, rfl, h1, _, h2⟩
    rw [orgsKv_keys, show (orgsKv M.orgs).length = M.orgs.length by simp [orgsKv]] at h1
    obtain ⟨a, c, rfl, h3, hup⟩ := own_up h1
    exact ⟨a, _, c, rfl, h3, h.orgs, h2, hup⟩)
  have c0 : w.cell? ⟨p, 1, none⟩ = some (.map (some M.ob)) := h.blk.cell rfl
  obtain ⟨ub, hub⟩ : ∃ b, M.ob = b := ⟨_, rfl⟩
  rw [hub] at HR c0
  clear h hub
  go_enter Try.func15, Try.ntmps15
  go_wp2_with fail
  refine HM.mono ?_
  rintro e w2 ⟨rfl, rfl⟩
  clear HM
  go_wp2_with fail
  refine HR.mono ?_
  rintro e w3 ⟨a, n, c, rfl, HF⟩
  clear HR c0
  go_wp2
  go_ret
  exact ⟨a, n, c, rfl, HF⟩
set_option maxRecDepth 100000 in
theorem members_up (h : PAt w p M) (x : Hs) (hx : x.length ≤ 140737488355328) : Calls Try.prog 16 #[.pointer (some ⟨p, 0, none⟩), hv x] w (TolU w (membersL M x) 64) := by
  have HFI := find_is h x hx
  obtain ⟨ro, hro⟩ : ∃ ro, M.org x = ro := ⟨_, rfl⟩
  cases ro with
  | none =>
    have HL : Hid (membersL M x = []) := by show _ = _; unfold membersL; rw [hro]
    rw [hro] at HFI
    simp only [foundOf, Option.isSome_none, Bool.false_eq_true, if_false] at HFI
    clear h hro
    go_enter Try.func16, Try.ntmps16
    go_wp2_with fail
    refine HFI.mono ?_
    rintro e w2 ⟨rfl, rfl⟩
    clear HFI
    go_wp2
    go_ret
    exact ⟨none, 0, 0, rfl, by rw [HL.out]; exact ⟨StrAt.none _, by omega, Below.refl _ _, Up.none _⟩⟩
  | some o =>
    obtain ⟨hm, _⟩ := h.split hro
    have hL : membersL M x = sortK (o.roles.map (·.1)) := by unfold membersL; rw [hro]
    rw [hro] at HFI
    simp only [foundOf, Option.isSome_some, if_true] at HFI
    have HR : Calls Try.prog 42 #[.map (some o.rb)] w (TolU w (membersL M x) 64) := (rising_I (h.oroles hm) (by simp [rolesKv]; have := h.few hm; omega)).mono (by
      rintro e w' ⟨v, rfl, h1, _, h2⟩
      rw [rolesKv_keys, show (rolesKv o.roles).length = o.roles.length by simp [rolesKv], ← hL] at h1
      obtain ⟨a, c, rfl, h3, hup⟩ := own_up h1
      exact ⟨a, _, c, rfl, h3, h.few hm, h2, hup⟩)
    obtain ⟨ok, hok⟩ : ∃ b, o.blk = b := ⟨_, rfl⟩
    obtain ⟨rb, hrb⟩ : ∃ b, o.rb = b := ⟨_, rfl⟩
    have c1 : w.cell? ⟨ok, 1, none⟩ = some (.map (some rb)) := by rw [← hok, ← hrb]; exact (h.oblk hm).cell rfl
    rw [hok] at HFI
    rw [hrb] at HR
    clear h hro hm hok hrb hL
    go_enter Try.func16, Try.ntmps16
    go_wp2_with fail
    refine HFI.mono ?_
    rintro e w2 ⟨rfl, rfl⟩
    clear HFI
    go_wp2_with fail
    refine HR.mono ?_
    rintro e w3 ⟨a, n, c, rfl, HF⟩
    clear HR c1
    go_wp2
    go_ret
    exact ⟨a, n, c, rfl, HF⟩
set_option maxRecDepth 100000 in
theorem teams_up (h : PAt w p M) (x : Hs) (hx : x.length ≤ 140737488355328) : Calls Try.prog 18 #[.pointer (some ⟨p, 0, none⟩), hv x] w (TolU w (teamsL M x) 8) := by
  have HFI := find_is h x hx
  obtain ⟨ro, hro⟩ : ∃ ro, M.org x = ro := ⟨_, rfl⟩
  cases ro with
  | none =>
    have HL : Hid (teamsL M x = []) := by show _ = _; unfold teamsL; rw [hro]
    rw [hro] at HFI
    simp only [foundOf, Option.isSome_none, Bool.false_eq_true, if_false] at HFI
    clear h hro
    go_enter Try.func18, Try.ntmps18
    go_wp2_with fail
    refine HFI.mono ?_
    rintro e w2 ⟨rfl, rfl⟩
    clear HFI
    go_wp2
    go_ret
    exact ⟨none, 0, 0, rfl, by rw [HL.out]; exact ⟨StrAt.none _, by omega, Below.refl _ _, Up.none _⟩⟩
  | some o =>
    obtain ⟨hm, _⟩ := h.split hro
    have hL : teamsL M x = sortK (o.teams.map (·.name)) := by unfold teamsL; rw [hro]
    rw [hro] at HFI
    simp only [foundOf, Option.isSome_some, if_true] at HFI
    have h8 := (h.ok o hm).teams
    have HR : Calls Try.prog 44 #[.map (some o.tb)] w (TolU w (teamsL M x) 8) := (names_is (h.oteams hm) (by omega)).mono (by
      rintro e w' ⟨a, c, rfl, h1⟩
      obtain ⟨h1, h2⟩ := h1.out
      rw [← hL] at h1
      obtain ⟨a', c', e', h3, hup⟩ := own_up h1
      cases e'
      exact ⟨a, _, c, rfl, h3, h8, h2, hup⟩)
    obtain ⟨ok, hok⟩ : ∃ b, o.blk = b := ⟨_, rfl⟩
    obtain ⟨tb, htb⟩ : ∃ b, o.tb = b := ⟨_, rfl⟩
    have c1 : w.cell? ⟨ok, 0, none⟩ = some (.map (some tb)) := by rw [← hok, ← htb]; exact (h.oblk hm).cell rfl
    rw [hok] at HFI
    rw [htb] at HR
    clear h hro hm hok htb hL h8
    go_enter Try.func18, Try.ntmps18
    go_wp2_with fail
    refine HFI.mono ?_
    rintro e w2 ⟨rfl, rfl⟩
    clear HFI
    go_wp2_with fail
    refine HR.mono ?_
    rintro e w3 ⟨a, n, c, rfl, HF⟩
    clear HR c1
    go_wp2
    go_ret
    exact ⟨a, n, c, rfl, HF⟩
/-- how a user is told -/
def SubU (w : World) (M : Pm) (x u : Hs) (e : Ending) (w' : World) : Prop := ∃ a n c, e = .returned (.agg #[hv u, .slice a n c, iv (subR M x u)]) ∧ Hid (StrAt w' a n (subT M x u) ∧ n ≤ 8 ∧ Below w.heap.size w w' ∧ Up w.heap.size a n)
set_option maxRecDepth 100000 in
set_option maxHeartbeats 1000000 in
theorem sub_up (h : PAt w p M) (hsh : Sh M) (x u : Hs) (hx : x.length ≤ 140737488355328) (hu : u.length ≤ 140737488355328) : Calls Try.prog 21 #[.pointer (some ⟨p, 0, none⟩), hv x, hv u] w (SubU w M x u) := by
  obtain ⟨ro, hro⟩ : ∃ ro, M.org x = ro := ⟨_, rfl⟩
  cases ro with
  | some o =>
    obtain ⟨hm, _⟩ := h.split hro
    refine (subject_is h x u hx hu hro (hsh.2 o hm).2).mono ?_
    rintro e w' ⟨a, c, rfl, h1⟩
    refine ⟨a, _, c, by unfold subR; rw [hro], ?_⟩
    have e1 : subT M x u = teamsOf o.teams u := by unfold subT; rw [hro]
    obtain ⟨a', c', e', h3, hup⟩ := own_up h1.out.1
    cases e'
    exact ⟨by rw [e1]; exact h3, Nat.le_trans (teamsOf_len _ _) (h.ok o hm).teams, h1.out.2, hup⟩
  | none =>
    obtain ⟨W, hW⟩ : ∃ W, w.alloc (.cells #[.string ⟨#[]⟩, .slice none 0 0, .int .i64 0] 42) = W := ⟨_, rfl⟩
    have hb : Below w.heap.size w W := by rw [← hW]; exact (Below.refl _ w).alloc (Nat.le_refl _) _
    have HFI := find_is (h.below hb) x hx
    rw [hro] at HFI
    simp only [foundOf, Option.isSome_none, Bool.false_eq_true, if_false] at HFI
    have H : Hid (Below w.heap.size w W ∧ Blk W w.heap.size 42 [.string ⟨#[]⟩, .slice none 0 0, .int .i64 0]) := ⟨hb, by rw [← hW]; simpa using Blk.new w #[.string ⟨#[]⟩, .slice none 0 0, .int .i64 0] 42⟩
    have HW : Hid (w.alloc (.cells #[.string ⟨#[]⟩, .slice none 0 0, .int .i64 0] 42) = W) := hW
    have hz42 : ∀ W, (zeroValue 42).run Try.prog W = .ok (.agg #[.string ⟨#[]⟩, .slice none 0 0, .int .i64 0]) W := fun W => by kernel_rfl
    obtain ⟨s, hs⟩ : ∃ s : ByteArray, hv u = .string s := ⟨_, rfl⟩
    have HS : Hid (hv u = .string s ∧ subT M x u = [] ∧ subR M x u = 0) := ⟨hs, by unfold subT; rw [hro], by unfold subR; rw [hro]⟩
    rw [hs]
    clear h hW hb hro hs hsh
    go_enter Try.func21, Try.ntmps21
    go_wp2_with fail
    rw [HW.out]
    refine HFI.mono ?_
    rintro e w2 ⟨rfl, rfl⟩
    clear HFI
    go_wp2_with (first
      | (with_reducible change wpList _ _ _ ({ dst := none, op := Op.store 42 _ _, type := _, pos := _, after := _, guard := _ } :: _) _ _
         refine Hid.out ?_)
      | fail)
    show wpList _ _ _ _ _ _
    refine wpList_store_blk rfl 42 (.tmp 6) (.tmp 18) rfl w.heap.size 0 42 _ [.string s, .slice none 0 0, .int .i64 0] rfl rfl H.out.2 (by simp) (by kernel_rfl) (by simp [Value.oneCell']) ?_
    intro V9 R1 R2
    have HV : Hid (Blk V9 w.heap.size 42 [.string s, .slice none 0 0, .int .i64 0] ∧ Below w.heap.size w V9) := ⟨R1.out, H.out.1.grown R2.out H.out.1.size (fun j hj => by cases hj; omega)⟩
    clear R1 R2
    go_wp2
    refine bodyPost_ret (results_cell_row (P := Try.prog) (p := 6) rfl _ V9 w.heap.size 42 _ (0, 0) _ rfl HV.out.1 Try.underlying42 rfl (by kernel_rfl)) rfl ?_
    refine ⟨none, 0, 0, by rw [HS.out.1, HS.out.2.2], ?_⟩
    rw [HS.out.2.1]
    exact ⟨StrAt.none _, by omega, HV.out.2, Up.none _⟩
end
/-- a row of the call's own -/
abbrev Ow (w : World) (e sz : Nat) (v : Value) (n : Nat) (cs : List Value) : Prop := w.ownsRow 0 e sz v n cs
theorem Ow.same {w w' : World} {e sz n : Nat} {v : Value} {cs : List Value} (h : Ow w e sz v n cs) (hs : ∀ g, v.ownBlock = some g → w'.heap[g]? = w.heap[g]?) : Ow w' e sz v n cs := by
  refine ⟨h.1, ?_⟩
  rcases h.2 with hn | ⟨g, cap, cur, rfl, hB, hb, hr⟩
  · exact .inl hn
  · exact .inr ⟨g, cap, cur, rfl, hB, (hs g rfl).trans hb, hr⟩
theorem Ow.lt {w : World} {e sz n : Nat} {v : Value} {cs : List Value} (h : Ow w e sz v n cs) {g : Nat} (hg : v.ownBlock = some g) : g < w.heap.size := by
  rcases h.2 with ⟨rfl, _⟩ | ⟨g', cap, cur, rfl, hB, hb, hr⟩
  · cases hg
  · cases hg; exact lt_of_block hb
theorem Ow.below {w w' : World} {e sz n : Nat} {v : Value} {cs : List Value} (h : Ow w e sz v n cs) (hb : Below w.heap.size w w') : Ow w' e sz v n cs := h.same fun g hg => hb.block g (h.lt hg)
theorem Ow.nil (w : World) (e sz : Nat) : Ow w e sz (.slice none 0 0) 0 [] := ⟨by simp, .inl ⟨rfl, rfl⟩⟩
/-- its parts -/
theorem Ow.read {w : World} {e sz n : Nat} {v : Value} {cs : List Value} (h : Ow w e sz v n cs) :
    ∃ a cap, v = .slice a n cap ∧ n ≤ cap ∧ cap ≤ maxLen ∧ cs.length = n * sz ∧ (0 < n → ∃ g, a = some ⟨g, 0, none⟩ ∧ v.ownBlock = some g ∧ g < w.heap.size ∧ w.rangeAt g 0 cs) := by
  rcases h.2 with ⟨rfl, rfl⟩ | ⟨g, cap, cur, rfl, hB, hb, hn, hc, hsz, ht⟩
  · exact ⟨none, 0, rfl, Nat.le_refl _, by unfold maxLen; omega, h.1, fun h => absurd h (by omega)⟩
  · refine ⟨_, cap, rfl, hn, hc, h.1, fun _ => ⟨g, rfl, rfl, lt_of_block hb, fun j u hu => ?_⟩⟩
    rw [Nat.zero_add, cell_of_row w g j _ e (0, 0) hb]
    rw [← ht, List.getElem?_take] at hu
    split at hu
    · simpa using hu
    · cases hu
/-- something appended: where the new row lies -/
theorem run_append_ow {P : Program} (w : World) (t ty e : TypeId) (i : TypeInfo) (z : Value) (sz : Nat) (ht : P.underlying t = some (.slice e)) (hi : P.info? e = some i) (hz : i.zero = some z) (hs : i.size = sz) (hzs : z.cells.size = sz) (hsz : 0 < sz)
    (v : Value) (n : Nat) (cs : List Value) (h : Ow w e sz v n cs) (g off m c : Nat) (qs : List Value) (hl : qs.length = m * sz) (hq : w.rangeAt g off qs) (h1 : ∀ u ∈ qs, u.oneCell' = true) (hn : n + m ≤ 1000000) (hm : 0 < m) (hby : i.bytes ≤ 1000) :
    ∃ v' w', (Builtin.append_ #[t, t] ty #[v, .slice (some ⟨g, off, none⟩) m c]).run P w = .ok v' w' ∧ Ow w' e sz v' (n + m) (cs ++ qs) ∧ w.grownBy w' v.ownBlock ∧ ∃ g', v'.ownBlock = some g' ∧ (v.ownBlock = some g' ∨ g' = w.heap.size) := by
  have hb2 : (n + m) * i.bytes ≤ 140737488355328 := by
    refine Nat.le_trans (Nat.mul_le_mul hn hby) (by omega)
  obtain ⟨v', w', hr, h2, h3, h4, h5⟩ := run_append_own_at (P := P) w 0 t ty e i z sz i.bytes ht hi hz hs rfl hzs hsz v n cs h ⟨g, off, none⟩ m c qs hl (fun j u hu => by rw [Addr.add_lit]; exact hq j u hu) h1 (by unfold maxLen; omega) hb2 (Nat.zero_le _)
  refine ⟨v', w', hr, h2, h3, ?_⟩
  rcases h2.2 with ⟨_, h0⟩ | ⟨g', cap, cur, rfl, _⟩
  · omega
  · refine ⟨g', rfl, ?_⟩
    rcases h5 with h5 | h5
    · exact .inl h5.symm
    · right; simpa [Value.ownBlock] using h5
theorem wpList_append_ow {P : Program} {ops : Array Oper} {rest : List Oper} {o : Oper} {a : Act} {Q : Exit → Act → World → Prop} (hgd : o.guard = none) (s x : Operand) (t : TypeId)
    (hop : o.op = .call { callee := .builtin .append, args := #[s, x], argTypes := #[t, t] }) (w : World) (e : TypeId) (i : TypeInfo) (z : Value) (sz : Nat) (ht : P.underlying t = some (.slice e)) (hi : P.info? e = some i) (hz : i.zero = some z) (hs : i.size = sz) (hby : i.bytes ≤ 1000) (hzs : z.cells.size = sz) (hsz : 0 < sz)
    (v : Value) (n : Nat) (cs : List Value) (h : Ow w e sz v n cs) (g q c : Nat) (qs : List Value) (hsv : a.eval s = v) (hx : a.eval x = .slice (some ⟨g, 0, none⟩) q c) (hl : qs.length = q * sz) (hq : w.rangeAt g 0 qs) (h1 : ∀ u ∈ qs, u.oneCell' = true) (hq0 : 0 < q) (hn : n + q ≤ 1000000)
    (hk : ∀ v' w', Hid (Ow w' e sz v' (n + q) (cs ++ qs)) → Hid (w.grownBy w' v.ownBlock) → Hid (∃ g', v'.ownBlock = some g' ∧ (v.ownBlock = some g' ∨ g' = w.heap.size)) → wpList P ops Q rest (a.put o.dst v') w') : wpList P ops Q (o :: rest) a w := by
  refine wpList_plain hgd fun K hK => ?_
  obtain ⟨v', w', hr, h2, h3, h4⟩ := run_append_ow (P := P) w t o.type e i z sz ht hi hz hs hzs hsz v n cs h g 0 q c qs hl hq h1 hn hq0 hby
  unfold Oper.wp execOp
  simp only [hop, resolve, invoke, builtin, Sem.run_bind, Sem.run_pure, Result.andThen_ok, List.map_toArray, List.map_cons, List.map_nil, hsv, hx, hr]
  exact hK _ _ (hk v' w' h2 h3 h4)
#print axioms sub_up
end Go.Proofs.Ytfickhhfhdhcbaa.Oct
