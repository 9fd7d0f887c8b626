/-
  Layer 15 (people): people in memory; isMade, find, AddUser.
-/
import Derived.Test.YtfickhhfhdhcbaaSmall
namespace Go.Proofs.Ytfickhhfhdhcbaa.Oct
open Go.RowKit

/-- what is kept but for the blocks of S -/
structure Keep (S : Nat → Prop) (w w' : World) : Prop where
  os : w'.os = w.os
  tape : w'.tape = w.tape
  output : w'.output = w.output
  size : w.heap.size ≤ w'.heap.size
  block : ∀ k, k < w.heap.size → ¬ S k → w'.heap[k]? = w.heap[k]?

theorem Keep.refl (S : Nat → Prop) (w : World) : Keep S w w := ⟨rfl, rfl, rfl, Nat.le_refl _, fun _ _ _ => rfl⟩
theorem Keep.trans {S T : Nat → Prop} {w w1 w2 : World} (h : Keep S w w1) (k : Keep T w1 w2) (hs : ∀ j, T j → j < w.heap.size → S j) : Keep S w w2 :=
  ⟨k.os.trans h.os, k.tape.trans h.tape, k.output.trans h.output, Nat.le_trans h.size k.size, fun j hj hn => (k.block j (Nat.lt_of_lt_of_le hj h.size) (fun ht => hn (hs j ht hj))).trans (h.block j hj hn)⟩
theorem Keep.grown {S : Nat → Prop} {w w' : World} {b : Nat} (h : w.grownBy w' (some b)) (hb : S b) : Keep S w w' := ⟨h.os, h.tape, h.output, h.size, fun k hk hn => h.block k hk (fun e => hn (by cases e; exact hb))⟩
theorem Keep.grownO {S : Nat → Prop} {w w' : World} {r : Option Nat} (h : w.grownBy w' r) (hb : ∀ b, r = some b → S b) : Keep S w w' := ⟨h.os, h.tape, h.output, h.size, fun k hk hn => h.block k hk (fun e => hn (hb k e.symm))⟩
theorem Keep.below {S : Nat → Prop} {w w' : World} (h : Below w.heap.size w w') : Keep S w w' := ⟨h.os, h.tape, h.output, h.size, fun k hk _ => h.block k hk⟩
theorem Keep.toBelow {S : Nat → Prop} {B : Nat} {w w' : World} (h : Keep S w w') (hB : B ≤ w.heap.size) (hs : ∀ k, S k → B ≤ k) : Below B w w' :=
  ⟨h.os, h.tape, h.output, h.size, fun k hk => h.block k (by omega) (fun e => by have := hs k e; omega)⟩
theorem Keep.mono {S T : Nat → Prop} {w w' : World} (h : Keep S w w') (hs : ∀ j, j < w.heap.size → S j → T j) : Keep T w w' := ⟨h.os, h.tape, h.output, h.size, fun k hk hn => h.block k hk (fun e => hn (hs k hk e))⟩
theorem Keep.none_below {w w' : World} (h : Keep (fun _ => False) w w') : Below w.heap.size w w' := ⟨h.os, h.tape, h.output, h.size, fun k hk => h.block k hk (fun e => e)⟩
theorem Keep.drew {S : Nat → Prop} {w w' : World} (h : Keep S w w') : Keep S w w'.drew := ⟨h.os, h.tape, h.output, h.size, h.block⟩
theorem Keep.blk {S : Nat → Prop} {w w' : World} (h : Keep S w w') {b : Nat} {t : TypeId} {L : List Value} (hb : Blk w b t L) (hn : ¬ S b) : Blk w' b t L := (h.block b hb.lt hn).trans hb

/-- a team, an organisation, people: what they have, and where it lies -/
structure Tm where
  name : Hs
  blk : Nat
  mem : List Hs
structure Og where
  name : Hs
  blk : Nat
  tb : Nat
  rb : Nat
  teams : List Tm
  roles : List (Hs × Int)
structure Pm where
  ub : Nat
  ob : Nat
  users : List Hs
  orgs : List Og
def teamsKv (l : List Tm) : Kv := l.map fun t => (t.name, .map (some t.blk))
def rolesKv (l : List (Hs × Int)) : Kv := l.map fun r => (r.1, .int .i64 r.2)
def orgsKv (l : List Og) : Kv := l.map fun o => (o.name, .pointer (some ⟨o.blk, 0, none⟩))
def tmHp (t : Tm) : Nat × Cont := (t.blk, .kv (unit t.mem))
def Og.hp (o : Og) : Hp := (o.blk, .cells 73 [.map (some o.tb), .map (some o.rb)]) :: (o.tb, .kv (teamsKv o.teams)) :: (o.rb, .kv (rolesKv o.roles)) :: o.teams.map tmHp
def Pm.hp (M : Pm) (p : Nat) : Hp := (p, .cells 51 [.map (some M.ub), .map (some M.ob)]) :: (M.ub, .kv (unit M.users)) :: (M.ob, .kv (orgsKv M.orgs)) :: M.orgs.flatMap Og.hp
def Pm.bl (M : Pm) (p : Nat) : List Nat := (M.hp p).map (·.1)
/-- what holds of an organisation -/
structure OgOk (us : List Hs) (o : Og) : Prop where
  teams : o.teams.length ≤ 8
  roles : ∀ r ∈ o.roles, r.1 ∈ us ∧ (r.2 = 1 ∨ r.2 = 2)
  owner : ∃ r ∈ o.roles, r.2 = 2
  mem : ∀ t ∈ o.teams, ∀ k ∈ t.mem, k ∈ o.roles.map (·.1)
/-- people stand at block p -/
structure PAt (w : World) (p : Nat) (M : Pm) : Prop where
  hp : (M.hp p).at w
  users : M.users.length ≤ 64
  orgs : M.orgs.length ≤ 8
  ok : ∀ o ∈ M.orgs, OgOk M.users o
/-- what a call leaves -/
def PAfter (w : World) (p : Nat) (M M' : Pm) (w' : World) : Prop :=
  PAt w' p M' ∧ (∀ k ∈ M'.bl p, k ∈ M.bl p ∨ w.heap.size ≤ k) ∧ Keep (fun k => k ∈ M.bl p) w w'
section
variable {w w' : World} {p : Nat} {M : Pm}
theorem PAt.blk (h : PAt w p M) : Blk w p 51 [.map (some M.ub), .map (some M.ob)] := h.hp.all (p, .cells 51 _) (by simp [Pm.hp])
theorem PAt.us (h : PAt w p M) : MP w M.ub (unit M.users) := h.hp.all (M.ub, .kv _) (by simp [Pm.hp])
theorem PAt.os (h : PAt w p M) : MP w M.ob (orgsKv M.orgs) := h.hp.all (M.ob, .kv _) (by simp [Pm.hp])
theorem PAt.below (h : PAt w p M) (hb : Below w.heap.size w w') : PAt w' p M := ⟨h.hp.below hb, h.users, h.orgs, h.ok⟩
theorem PAt.keep {S : Nat → Prop} (h : PAt w p M) (hk : Keep S w w') (hS : ∀ k ∈ M.bl p, ¬ S k) : PAt w' p M :=
  ⟨h.hp.same fun b hb => hk.block b (h.hp.lt b hb) (hS b hb), h.users, h.orgs, h.ok⟩
theorem PAfter.same (h : PAt w p M) (hb : Below w.heap.size w w') : PAfter w p M M w' := ⟨h.below hb, fun _ hk => .inl hk, Keep.below hb⟩
theorem PAfter.first {w1 : World} {M' : Pm} (hb : Below w.heap.size w w1) (h : PAfter w1 p M M' w') : PAfter w p M M' w' :=
  ⟨h.1, fun k hk => (h.2.1 k hk).imp id (fun e => Nat.le_trans hb.size e), (Keep.below hb).trans h.2.2 (fun _ hj _ => hj)⟩
theorem PAfter.then {w1 : World} {M' : Pm} (h : PAfter w p M M' w1) (hb : Below w1.heap.size w1 w') : PAfter w p M M' w' :=
  ⟨h.1.below hb, h.2.1, h.2.2.trans (Keep.below (S := fun k => k ∈ M.bl p) hb) (fun _ hj _ => hj)⟩
end

theorem neq49 (ob : Nat) (W : World) : (binOp BinOp.neq 49 (.map (some ob)) (.map none)).run Try.prog W = .ok (.bool true) W := by kernel_rfl
theorem neq49n (W : World) : (binOp BinOp.neq 49 (.map none) (.map none)).run Try.prog W = .ok (.bool false) W := by kernel_rfl
set_option maxRecDepth 100000 in
theorem made_is {w : World} {p : Nat} {M : Pm} (h : PAt w p M) : Calls Try.prog 38 #[.pointer (some ⟨p, 0, none⟩)] w fun e w' => e = .returned (.bool true) ∧ w = w' := by
  have c1 : w.cell? ⟨p, 1, none⟩ = some (.map (some M.ob)) := h.blk.cell rfl
  clear h
  generalize M.ob = ob at c1
  have hq := neq49 ob
  go_enter Try.func38, Try.ntmps38
  go_wp2
  go_ret
  exact ⟨rfl, rfl⟩
set_option maxRecDepth 100000 in
theorem made_nil (w : World) : Calls Try.prog 38 #[.pointer none] w fun e w' => e = .returned (.bool false) ∧ w = w' := by
  go_enter Try.func38, Try.ntmps38
  go_wp2
  go_ret
  exact ⟨rfl, rfl⟩
set_option maxRecDepth 100000 in
theorem made_zero {w : World} {p : Nat} (h : Blk w p 51 [.map none, .map none]) : Calls Try.prog 38 #[.pointer (some ⟨p, 0, none⟩)] w fun e w' => e = .returned (.bool false) ∧ w = w' := by
  have c1 : w.cell? ⟨p, 1, none⟩ = some (.map none) := h.cell rfl
  have hq := neq49n
  clear h
  go_enter Try.func38, Try.ntmps38
  go_wp2
  go_ret
  exact ⟨rfl, rfl⟩
#print axioms made_is
#print axioms made_zero

/-- an organisation by its name -/
def Pm.org (M : Pm) (h : Hs) : Option Og := M.orgs.find? (fun o => o.name == h)
theorem kget_orgs (l : List Og) (h : Hs) : kget (orgsKv l) h = (l.find? (fun o => o.name == h)).map fun o => .pointer (some ⟨o.blk, 0, none⟩) := by
  unfold kget orgsKv
  rw [List.find?_map, Option.map_map]
  rfl
def foundOf (o : Option Og) : Value := .tuple #[match o with | some o => .pointer (some ⟨o.blk, 0, none⟩) | none => .pointer none, .int .i64 (if o.isSome then 0 else 111)]
set_option maxRecDepth 100000 in
theorem find_is {w : World} {p : Nat} {M : Pm} (h : PAt w p M) (x : Hs) (hl : x.length ≤ 140737488355328) : Calls Try.prog 41 #[.pointer (some ⟨p, 0, none⟩), hv x] w fun e w' => e = .returned (foundOf (M.org x)) ∧ w = w' := by
  have c1 : w.cell? ⟨p, 1, none⟩ = some (.map (some M.ob)) := h.blk.cell rfl
  have hlk := h.os.look2 (t := 49) (h := x) Try.underlying49 (len_max hl) (zero65 w)
  have HM : Hid (PAt w p M) := h
  unfold khas at hlk
  rw [kget_orgs] at hlk
  unfold Pm.org
  clear h
  generalize hv x = s at hlk ⊢
  generalize M.ob = ob at c1 hlk
  cases hf : M.orgs.find? (fun o => o.name == x) with
  | none =>
    rw [hf] at hlk
    simp only [Option.map_none, Option.getD_none, Option.isSome_none] at hlk
    unfold foundOf
    simp only [Option.isSome_none, Bool.false_eq_true, if_false]
    clear hf
    go_enter Try.func41, Try.ntmps41
    go_wp2_with fail
    refine (made_is HM.out).mono ?_
    rintro e w2 ⟨rfl, rfl⟩
    go_wp2
    go_ret2
    exact ⟨rfl, rfl⟩
  | some o =>
    rw [hf] at hlk
    simp only [Option.map_some, Option.getD_some, Option.isSome_some] at hlk
    unfold foundOf
    simp only [Option.isSome_some, if_true]
    clear hf
    generalize o.blk = ok at hlk ⊢
    go_enter Try.func41, Try.ntmps41
    go_wp2_with fail
    refine (made_is HM.out).mono ?_
    rintro e w2 ⟨rfl, rfl⟩
    go_wp2
    go_ret2
    exact ⟨rfl, rfl⟩
#print axioms find_is
theorem find_unmade {w : World} {v : Value} (hm : Calls Try.prog 38 #[v] w fun e w' => e = .returned (.bool false) ∧ w = w') (s : Value) : Calls Try.prog 41 #[v, s] w fun e w' => e = .returned (.tuple #[.pointer none, .int .i64 1]) ∧ w = w' := by
  have HM : Hid (Calls Try.prog 38 #[v] w fun e w' => e = .returned (.bool false) ∧ w = w') := hm
  clear hm
  go_enter Try.func41, Try.ntmps41
  go_wp2_with fail
  refine HM.out.mono ?_
  rintro e w2 ⟨rfl, rfl⟩
  go_wp2
  go_ret2
  exact ⟨rfl, rfl⟩

/-- AddUser -/
def Pm.addUser (M : Pm) (u : Hs) : Int × Pm := if begins (decide (u ∈ M.users)) u ≠ 0 then (begins (decide (u ∈ M.users)) u, M) else if 64 ≤ M.users.length then (3, M) else (0, { M with users := addK M.users u })
set_option maxRecDepth 100000 in
theorem addUser_is {w : World} {p : Nat} {M : Pm} (h : PAt w p M) (u : Hs) (hl : u.length ≤ 140737488355328) : Calls Try.prog 24 #[.pointer (some ⟨p, 0, none⟩), hv u] w fun e w' => e = .returned (.int .i64 (M.addUser u).1) ∧ PAfter w p M (M.addUser u).2 w' := by
  have H : Hid (PAt w p M) := h
  have HL : Hid (u.length ≤ 140737488355328) := hl
  have c0 : w.cell? ⟨p, 0, none⟩ = some (.map (some M.ub)) := h.blk.cell rfl
  have HB : Hid (Calls Try.prog 48 #[.map (some M.ub), hv u] w fun e w' => e = .returned (.int .i64 (begins (decide (u ∈ M.users)) u)) ∧ Below w.heap.size w w') := by
    have := begin_U h.us u hl
    rw [khas_unit] at this
    exact this
  obtain ⟨ub, hub⟩ : ∃ ub, M.ub = ub := ⟨_, rfl⟩
  have HUB : Hid (M.ub = ub) := hub
  obtain ⟨M', hM'⟩ : ∃ M', (M.addUser u).2 = M' := ⟨_, rfl⟩
  have HM' : Hid ((M.addUser u).2 = M') := hM'
  rw [hM']
  rw [hub] at c0 HB
  unfold Pm.addUser at HM' ⊢
  generalize begins (decide (u ∈ M.users)) u = g at HB HM' ⊢
  obtain ⟨s, hs⟩ : ∃ s, hv u = s := ⟨_, rfl⟩
  have HS : Hid (hv u = s) := hs
  rw [hs] at HB ⊢
  clear h hl hub hM' hs
  by_cases hg : g = 0
  · subst hg
    by_cases hn : 64 ≤ M.users.length
    · have HA : Hid (M = M') := by
        have := HM'.out
        rw [if_neg (by simp), if_pos hn] at this
        exact this
      rw [if_neg (by simp), if_pos hn]
      have q1 : (64 : Int) ≤ (M.users.length : Int) := by omega
      clear hn HM'
      go_enter Try.func24, Try.ntmps24
      go_wp2_with fail
      refine (made_is H.out).mono ?_
      rintro e w2 ⟨rfl, rfl⟩
      go_wp2_with fail
      refine HB.out.mono ?_
      rintro e w3 ⟨rfl, hb3⟩
      have H3 : Hid (PAt w3 p M ∧ Below w.heap.size w w3) := ⟨H.out.below hb3, hb3⟩
      have hlen : (Builtin.len_ #[48] 3 #[.map (some ub)]).run Try.prog w3 = .ok (.int .i64 (M.users.length : Int)) w3 := by
        have := H3.out.1.us.len (t := 48) Try.underlying48 3
        rw [HUB.out] at this
        simpa [unit] using this
      have d0 : w3.cell? ⟨p, 0, none⟩ = some (.map (some ub)) := by rw [← HUB.out]; exact H3.out.1.blk.cell rfl
      clear hb3 c0
      go_wp2
      go_ret
      rw [← HA.out]
      exact ⟨rfl, PAfter.same H.out H3.out.2⟩
    · have HA : Hid ({ M with users := addK M.users u } = M') := by
        have := HM'.out
        rw [if_neg (by simp), if_neg hn] at this
        exact this
      rw [if_neg (by simp), if_neg hn]
      have q1 : ¬ (64 : Int) ≤ (M.users.length : Int) := by omega
      have HN : Hid (M.users.length < 64) := by show _ < _; omega
      clear hn HM'
      go_enter Try.func24, Try.ntmps24
      go_wp2_with fail
      refine (made_is H.out).mono ?_
      rintro e w2 ⟨rfl, rfl⟩
      go_wp2_with fail
      refine HB.out.mono ?_
      rintro e w3 ⟨rfl, hb3⟩
      have H3 : Hid (PAt w3 p M ∧ Below w.heap.size w w3) := ⟨H.out.below hb3, hb3⟩
      have hlen : (Builtin.len_ #[48] 3 #[.map (some ub)]).run Try.prog w3 = .ok (.int .i64 (M.users.length : Int)) w3 := by
        have := H3.out.1.us.len (t := 48) Try.underlying48 3
        rw [HUB.out] at this
        simpa [unit] using this
      have d0 : w3.cell? ⟨p, 0, none⟩ = some (.map (some ub)) := by rw [← HUB.out]; exact H3.out.1.blk.cell rfl
      clear hb3 c0
      go_wp2_with fail
      rw [← HS.out, ← HUB.out]
      refine (add_is H3.out.1.us u HL.out).mono ?_
      rintro e w4 ⟨rfl, hm4, hg4, hs4⟩
      have H4 : Hid (PAfter w3 p M { M with users := addK M.users u } w4) := by
        refine ⟨⟨?_, ?_, H3.out.1.orgs, fun o ho => ?_⟩, fun k hk => .inl hk, Keep.grown hg4 ?_⟩
        · exact Hp.at.turn (A := [(p, .cells 51 [.map (some M.ub), .map (some M.ob)])]) (B := (M.ob, .kv (orgsKv M.orgs)) :: M.orgs.flatMap Og.hp) (c := .kv (unit M.users)) (c' := .kv (unit (addK M.users u))) H3.out.1.hp hg4 hm4
        · have := HN.out
          show (addK M.users u).length ≤ 64
          unfold addK
          split
          · omega
          · rw [List.length_append]; show _ + 1 ≤ 64; omega
        · have k := H3.out.1.ok o ho
          refine ⟨k.teams, fun r hr => ⟨?_, (k.roles r hr).2⟩, k.owner, k.mem⟩
          have := (k.roles r hr).1
          show r.1 ∈ addK M.users u
          unfold addK
          split
          · exact this
          · exact List.mem_append.2 (.inl this)
        · simp [Pm.bl, Pm.hp]
      clear hm4 hg4 hs4 hlen d0
      go_wp2
      go_ret
      rw [← HA.out]
      exact ⟨rfl, PAfter.first H3.out.2 H4.out⟩
  · have HA : Hid (M = M') := by
      have := HM'.out
      rw [if_pos hg] at this
      exact this
    rw [if_pos hg]
    have q1 : (g == 0) = false := by simpa using hg
    have q2 : (g != 0) = true := by simpa using hg
    clear hg HM'
    go_enter Try.func24, Try.ntmps24
    go_wp2_with fail
    refine (made_is H.out).mono ?_
    rintro e w2 ⟨rfl, rfl⟩
    go_wp2_with fail
    refine HB.out.mono ?_
    rintro e w3 ⟨rfl, hb3⟩
    have H3 : Hid (Below w.heap.size w w3) := hb3
    clear hb3 c0
    go_wp2
    go_ret
    rw [← HA.out]
    exact ⟨rfl, PAfter.same H.out H3.out⟩
#print axioms addUser_is
end Go.Proofs.Ytfickhhfhdhcbaa.Oct
