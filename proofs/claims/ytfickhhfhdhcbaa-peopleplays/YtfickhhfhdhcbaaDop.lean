/-
  Layer 15 (people): do, over people that were made; few; what is told.
-/
import Derived.Test.YtfickhhfhdhcbaaLeq
import Derived.Test.YtfickhhfhdhcbaaVwa
import Derived.Deep.MidRow
import Derived.BigQuiet
namespace Go.Proofs.Ytfickhhfhdhcbaa.Oct
open Go.RowKit
set_option linter.unusedSimpArgs false
set_option linter.unusedVariables false

theorem below_al (w : World) (o : Obj) : Below w.heap.size w (w.alloc o) := (Below.refl _ w).alloc (Nat.le_refl _) o
theorem below_tr {w w1 w2 : World} (h : Below w.heap.size w w1) (k : Below w1.heap.size w1 w2) : Below w.heap.size w w2 := h.trans (k.mono h.size)
theorem rangeAt_same {w w' : World} {b o : Nat} {cs : List Value} (h : w.rangeAt b o cs) (hs : w'.heap[b]? = w.heap[b]?) : w'.rangeAt b o cs :=
  fun j v hj => (World.cell?_of_block (a := ⟨b, o + j, none⟩) hs).trans (h j v hj)
theorem wpList_load_want {ops : Array Oper} {rest : List Oper} {o : Oper} {a : Act} {w : World} {Q : Exit → Act → World → Prop} (hw : Region.wanted o (yielded ops a.tmps) = true) (ty : TypeId) (x : Operand) (ho : o.op = .load ty x)
    (b p : Nat) (hx : a.eval x = .pointer (some ⟨b, p, none⟩)) (cs : List Value) (d : TypeDesc) (hc : w.rangeAt b p cs)
    (hu : Try.prog.underlying ty = some d) (hd : d.isRow = true) (hi : (Try.prog.info? ty).map (·.size) = some cs.length)
    (h : wpList Try.prog ops Q rest (a.put o.dst (.agg cs.toArray)) w) : wpList Try.prog ops Q (o :: rest) a w :=
  Go.BigFrame.wpList_want hw fun _ hK => wp_load_mid ty x ho b p hx cs d hc hu hd hi (hK _ _ h)
/-- what a call answers, and what it leaves -/
def doE (M : Pm) (a : Av) : Int := if a.k = 0 then (M.addUser a.u).1 else if a.k = 1 then M.addOrgE a.x a.u else if a.k = 2 then M.joinE a.x a.u a.r else if a.k = 3 then M.leaveE a.x a.u else if a.k = 4 then M.teamE a.x a.t else if a.k = 5 then M.putE a.x a.t a.u else M.outE a.x a.t a.u
def DidK (M : Pm) (a : Av) (M' : Pm) : Prop :=
  if a.k = 0 then M' = { M with users := addK M.users a.u }
  else if a.k = 1 then ∃ b, M' = { M with orgs := M.orgs ++ [newOg a.x a.u b] }
  else if a.k = 2 then OneIs M a.x (fun o o' => o' = { o with roles := rput o.roles a.u a.r }) M'
  else if a.k = 3 then OneIs M a.x (fun o o' => o' = o.out a.u) M'
  else if a.k = 4 then OneIs M a.x (fun o o' => ∃ nb, o' = { o with teams := o.teams ++ [Tm.mk a.t nb []] }) M'
  else if a.k = 5 then OneIs M a.x (TeamIs a.t fun b b' => b' = { b with mem := addK b.mem a.u }) M'
  else OneIs M a.x (TeamIs a.t fun b b' => b' = tout a.u b) M'
def Did (M : Pm) (a : Av) (M' : Pm) : Prop := (doE M a ≠ 0 ∧ M' = M) ∨ (doE M a = 0 ∧ DidK M a M')
theorem addUser_did (M : Pm) (u : Hs) : ((M.addUser u).1 ≠ 0 ∧ (M.addUser u).2 = M) ∨ ((M.addUser u).1 = 0 ∧ (M.addUser u).2 = { M with users := addK M.users u }) := by
  unfold Pm.addUser
  split
  · exact .inl ⟨by assumption, rfl⟩
  · split
    · exact .inl ⟨by simp, rfl⟩
    · exact .inr ⟨rfl, rfl⟩
set_option maxRecDepth 100000 in
set_option maxHeartbeats 2000000 in
theorem do_is {w : World} {p : Nat} {M : Pm} (h : PAt w p M) (a : Av) (ha : a.ok) : Calls Try.prog 11 #[.pointer (some ⟨p, 0, none⟩), .agg #[iv a.k, hv a.x, hv a.t, hv a.u, iv a.r]] w fun e w' => e = .returned (iv (doE M a)) ∧ ∃ M', PAfter w p M M' w' ∧ Hid (Did M a M') := by
  obtain ⟨K, x, t, u, r⟩ := a
  obtain ⟨hx, ht, hu⟩ := ha
  simp only at hx ht hu ⊢
  obtain ⟨W, hW⟩ : ∃ W, w.alloc (.cells #[iv K, hv x, hv t, hv u, iv r] 32) = W := ⟨_, rfl⟩
  have hb : Below w.heap.size w W := by rw [← hW]; exact (Below.refl _ w).alloc (Nat.le_refl _) _
  have HB : Hid (Below w.heap.size w W ∧ PAt W p M ∧ x.length ≤ 140737488355328 ∧ t.length ≤ 140737488355328 ∧ u.length ≤ 140737488355328) := ⟨hb, h.below hb, hx, ht, hu⟩
  have hbk : Blk W w.heap.size 32 [iv K, hv x, hv t, hv u, iv r] := by rw [← hW]; simpa using Blk.new w #[iv K, hv x, hv t, hv u, iv r] 32
  obtain ⟨b3, hb3⟩ : ∃ b, w.heap.size = b := ⟨_, rfl⟩
  rw [hb3] at hbk
  have c0 : W.cell? ⟨b3, 0, none⟩ = some (iv K) := hbk.cell rfl
  have c1 : W.cell? ⟨b3, 1, none⟩ = some (hv x) := hbk.cell rfl
  have c2 : W.cell? ⟨b3, 2, none⟩ = some (hv t) := hbk.cell rfl
  have c3 : W.cell? ⟨b3, 3, none⟩ = some (hv u) := hbk.cell rfl
  have c4 : W.cell? ⟨b3, 4, none⟩ = some (iv r) := hbk.cell rfl
  clear hb hbk hx ht hu h
  by_cases k0 : K = 0
  · have hE : doE M ⟨K, x, t, u, r⟩ = (M.addUser u).1 := by simp [doE, k0]
    have HE : Hid (doE M ⟨K, x, t, u, r⟩ = (M.addUser u).1) := hE
    have HC : Calls Try.prog 24 #[.pointer (some ⟨p, 0, none⟩), hv u] W fun e w2 => e = .returned (iv ((M.addUser u).1)) ∧ Hid (∃ M', PAfter w p M M' w2 ∧ Hid (Did M ⟨K, x, t, u, r⟩ M')) := (addUser_is HB.out.2.1 u HB.out.2.2.2.2).mono (by
      rintro e w2 ⟨rfl, h1⟩
      refine ⟨rfl, ?_⟩
      show ∃ M', _
      exact ⟨_, PAfter.first HB.out.1 h1, by rcases addUser_did M u with ⟨a1, a2⟩ | ⟨a1, a2⟩; exact .inl ⟨by rw [hE]; exact a1, a2⟩; exact .inr ⟨by rw [hE]; exact a1, by simp only [DidK]; rw [if_pos k0]; exact a2⟩⟩)
    rw [hE]
    obtain ⟨E, hEE⟩ : ∃ E, (M.addUser u).1 = E := ⟨_, rfl⟩
    rw [hEE] at HC ⊢
    have q0 : (K == 0) = true := by simp [k0]
    clear hE hEE HE k0
    go_enter Try.func11, Try.ntmps11
    go_wp2_with fail
    refine HC.mono ?_
    rintro e w2 ⟨rfl, HF⟩
    clear HC
    go_wp2
    go_ret
    exact ⟨rfl, HF.out⟩
  · skip
    by_cases k1 : K = 1
    · have hE : doE M ⟨K, x, t, u, r⟩ = M.addOrgE x u := by simp [doE, k0, k1]
      have HE : Hid (doE M ⟨K, x, t, u, r⟩ = M.addOrgE x u) := hE
      have HC : Calls Try.prog 25 #[.pointer (some ⟨p, 0, none⟩), hv x, hv u] W fun e w2 => e = .returned (iv (M.addOrgE x u)) ∧ Hid (∃ M', PAfter w p M M' w2 ∧ Hid (Did M ⟨K, x, t, u, r⟩ M')) := (addOrg_is HB.out.2.1 x u HB.out.2.2.1 HB.out.2.2.2.2).mono (by
        rintro e w2 ⟨rfl, h1⟩
        refine ⟨rfl, ?_⟩
        show ∃ M', _
        rcases h1 with ⟨a1, a2⟩ | ⟨a1, b, a2⟩; exact ⟨_, PAfter.first HB.out.1 a2, .inl ⟨by rw [hE]; exact a1, rfl⟩⟩; exact ⟨_, PAfter.first HB.out.1 a2, .inr ⟨by rw [hE]; exact a1, by simp only [DidK]; rw [if_neg k0, if_pos k1]; exact ⟨b, rfl⟩⟩⟩)
      rw [hE]
      obtain ⟨E, hEE⟩ : ∃ E, M.addOrgE x u = E := ⟨_, rfl⟩
      rw [hEE] at HC ⊢
      have q0 : (K == 0) = false := by simpa using k0
      have q1 : (K == 1) = true := by simp [k1]
      clear hE hEE HE k0 k1
      go_enter Try.func11, Try.ntmps11
      go_wp2_with fail
      refine HC.mono ?_
      rintro e w2 ⟨rfl, HF⟩
      clear HC
      go_wp2
      go_ret
      exact ⟨rfl, HF.out⟩
    · skip
      by_cases k2 : K = 2
      · have hE : doE M ⟨K, x, t, u, r⟩ = M.joinE x u r := by simp [doE, k0, k1, k2]
        have HE : Hid (doE M ⟨K, x, t, u, r⟩ = M.joinE x u r) := hE
        have HC : Calls Try.prog 27 #[.pointer (some ⟨p, 0, none⟩), hv x, hv u, iv r] W fun e w2 => e = .returned (iv (M.joinE x u r)) ∧ Hid (∃ M', PAfter w p M M' w2 ∧ Hid (Did M ⟨K, x, t, u, r⟩ M')) := (join_is HB.out.2.1 x u r HB.out.2.2.1 HB.out.2.2.2.2).mono (by
          rintro e w2 ⟨rfl, M', h1, h2⟩
          refine ⟨rfl, ?_⟩
          show ∃ M', _
          exact ⟨M', PAfter.first HB.out.1 h1, by rcases h2.out with ⟨a1, a2⟩ | ⟨a1, a2⟩; exact .inl ⟨by rw [hE]; exact a1, a2⟩; exact .inr ⟨by rw [hE]; exact a1, by simp only [DidK]; rw [if_neg k0, if_neg k1, if_pos k2]; exact a2⟩⟩)
        rw [hE]
        obtain ⟨E, hEE⟩ : ∃ E, M.joinE x u r = E := ⟨_, rfl⟩
        rw [hEE] at HC ⊢
        have q0 : (K == 0) = false := by simpa using k0
        have q1 : (K == 1) = false := by simpa using k1
        have q2 : (K == 2) = true := by simp [k2]
        clear hE hEE HE k0 k1 k2
        go_enter Try.func11, Try.ntmps11
        go_wp2_with fail
        refine HC.mono ?_
        rintro e w2 ⟨rfl, HF⟩
        clear HC
        go_wp2
        go_ret
        exact ⟨rfl, HF.out⟩
      · skip
        by_cases k3 : K = 3
        · have hE : doE M ⟨K, x, t, u, r⟩ = M.leaveE x u := by simp [doE, k0, k1, k2, k3]
          have HE : Hid (doE M ⟨K, x, t, u, r⟩ = M.leaveE x u) := hE
          have HC : Calls Try.prog 26 #[.pointer (some ⟨p, 0, none⟩), hv x, hv u] W fun e w2 => e = .returned (iv (M.leaveE x u)) ∧ Hid (∃ M', PAfter w p M M' w2 ∧ Hid (Did M ⟨K, x, t, u, r⟩ M')) := (leave_is HB.out.2.1 x u HB.out.2.2.1 HB.out.2.2.2.2).mono (by
            rintro e w2 ⟨rfl, M', h1, h2⟩
            refine ⟨rfl, ?_⟩
            show ∃ M', _
            exact ⟨M', PAfter.first HB.out.1 h1, by rcases h2.out with ⟨a1, a2⟩ | ⟨a1, a2⟩; exact .inl ⟨by rw [hE]; exact a1, a2⟩; exact .inr ⟨by rw [hE]; exact a1, by simp only [DidK]; rw [if_neg k0, if_neg k1, if_neg k2, if_pos k3]; exact a2⟩⟩)
          rw [hE]
          obtain ⟨E, hEE⟩ : ∃ E, M.leaveE x u = E := ⟨_, rfl⟩
          rw [hEE] at HC ⊢
          have q0 : (K == 0) = false := by simpa using k0
          have q1 : (K == 1) = false := by simpa using k1
          have q2 : (K == 2) = false := by simpa using k2
          have q3 : (K == 3) = true := by simp [k3]
          clear hE hEE HE k0 k1 k2 k3
          go_enter Try.func11, Try.ntmps11
          go_wp2_with fail
          refine HC.mono ?_
          rintro e w2 ⟨rfl, HF⟩
          clear HC
          go_wp2
          go_ret
          exact ⟨rfl, HF.out⟩
        · skip
          by_cases k4 : K = 4
          · have hE : doE M ⟨K, x, t, u, r⟩ = M.teamE x t := by simp [doE, k0, k1, k2, k3, k4]
            have HE : Hid (doE M ⟨K, x, t, u, r⟩ = M.teamE x t) := hE
            have HC : Calls Try.prog 28 #[.pointer (some ⟨p, 0, none⟩), hv x, hv t] W fun e w2 => e = .returned (iv (M.teamE x t)) ∧ Hid (∃ M', PAfter w p M M' w2 ∧ Hid (Did M ⟨K, x, t, u, r⟩ M')) := (addTeam_is HB.out.2.1 x t HB.out.2.2.1 HB.out.2.2.2.1).mono (by
              rintro e w2 ⟨rfl, M', h1, h2⟩
              refine ⟨rfl, ?_⟩
              show ∃ M', _
              exact ⟨M', PAfter.first HB.out.1 h1, by rcases h2.out with ⟨a1, a2⟩ | ⟨a1, a2⟩; exact .inl ⟨by rw [hE]; exact a1, a2⟩; exact .inr ⟨by rw [hE]; exact a1, by simp only [DidK]; rw [if_neg k0, if_neg k1, if_neg k2, if_neg k3, if_pos k4]; exact a2⟩⟩)
            rw [hE]
            obtain ⟨E, hEE⟩ : ∃ E, M.teamE x t = E := ⟨_, rfl⟩
            rw [hEE] at HC ⊢
            have q0 : (K == 0) = false := by simpa using k0
            have q1 : (K == 1) = false := by simpa using k1
            have q2 : (K == 2) = false := by simpa using k2
            have q3 : (K == 3) = false := by simpa using k3
            have q4 : (K == 4) = true := by simp [k4]
            clear hE hEE HE k0 k1 k2 k3 k4
            go_enter Try.func11, Try.ntmps11
            go_wp2_with fail
            refine HC.mono ?_
            rintro e w2 ⟨rfl, HF⟩
            clear HC
            go_wp2
            go_ret
            exact ⟨rfl, HF.out⟩
          · skip
            by_cases k5 : K = 5
            · have hE : doE M ⟨K, x, t, u, r⟩ = M.putE x t u := by simp [doE, k0, k1, k2, k3, k4, k5]
              have HE : Hid (doE M ⟨K, x, t, u, r⟩ = M.putE x t u) := hE
              have HC : Calls Try.prog 29 #[.pointer (some ⟨p, 0, none⟩), hv x, hv t, hv u] W fun e w2 => e = .returned (iv (M.putE x t u)) ∧ Hid (∃ M', PAfter w p M M' w2 ∧ Hid (Did M ⟨K, x, t, u, r⟩ M')) := (put_all HB.out.2.1 x t u HB.out.2.2.1 HB.out.2.2.2.1 HB.out.2.2.2.2).mono (by
                rintro e w2 ⟨rfl, M', h1, h2⟩
                refine ⟨rfl, ?_⟩
                show ∃ M', _
                exact ⟨M', PAfter.first HB.out.1 h1, by rcases h2.out with ⟨a1, a2⟩ | ⟨a1, a2⟩; exact .inl ⟨by rw [hE]; exact a1, a2⟩; exact .inr ⟨by rw [hE]; exact a1, by simp only [DidK]; rw [if_neg k0, if_neg k1, if_neg k2, if_neg k3, if_neg k4, if_pos k5]; exact a2⟩⟩)
              rw [hE]
              obtain ⟨E, hEE⟩ : ∃ E, M.putE x t u = E := ⟨_, rfl⟩
              rw [hEE] at HC ⊢
              have q0 : (K == 0) = false := by simpa using k0
              have q1 : (K == 1) = false := by simpa using k1
              have q2 : (K == 2) = false := by simpa using k2
              have q3 : (K == 3) = false := by simpa using k3
              have q4 : (K == 4) = false := by simpa using k4
              have q5 : (K == 5) = true := by simp [k5]
              clear hE hEE HE k0 k1 k2 k3 k4 k5
              go_enter Try.func11, Try.ntmps11
              go_wp2_with fail
              refine HC.mono ?_
              rintro e w2 ⟨rfl, HF⟩
              clear HC
              go_wp2
              go_ret
              exact ⟨rfl, HF.out⟩
            · skip
              have hE : doE M ⟨K, x, t, u, r⟩ = M.outE x t u := by simp [doE, k0, k1, k2, k3, k4, k5]
              have HE : Hid (doE M ⟨K, x, t, u, r⟩ = M.outE x t u) := hE
              have HC : Calls Try.prog 30 #[.pointer (some ⟨p, 0, none⟩), hv x, hv t, hv u] W fun e w2 => e = .returned (iv (M.outE x t u)) ∧ Hid (∃ M', PAfter w p M M' w2 ∧ Hid (Did M ⟨K, x, t, u, r⟩ M')) := (out_is HB.out.2.1 x t u HB.out.2.2.1 HB.out.2.2.2.1 HB.out.2.2.2.2).mono (by
                rintro e w2 ⟨rfl, M', h1, h2⟩
                refine ⟨rfl, ?_⟩
                show ∃ M', _
                exact ⟨M', PAfter.first HB.out.1 h1, by rcases h2.out with ⟨a1, a2⟩ | ⟨a1, a2⟩; exact .inl ⟨by rw [hE]; exact a1, a2⟩; exact .inr ⟨by rw [hE]; exact a1, by simp only [DidK]; rw [if_neg k0, if_neg k1, if_neg k2, if_neg k3, if_neg k4, if_neg k5]; exact a2⟩⟩)
              rw [hE]
              obtain ⟨E, hEE⟩ : ∃ E, M.outE x t u = E := ⟨_, rfl⟩
              rw [hEE] at HC ⊢
              have q0 : (K == 0) = false := by simpa using k0
              have q1 : (K == 1) = false := by simpa using k1
              have q2 : (K == 2) = false := by simpa using k2
              have q3 : (K == 3) = false := by simpa using k3
              have q4 : (K == 4) = false := by simpa using k4
              have q5 : (K == 5) = false := by simpa using k5
              clear hE hEE HE k0 k1 k2 k3 k4 k5
              go_enter Try.func11, Try.ntmps11
              go_wp2_with fail
              refine HC.mono ?_
              rintro e w2 ⟨rfl, HF⟩
              clear HC
              go_wp2
              go_ret
              exact ⟨rfl, HF.out⟩
#print axioms do_is
set_option maxRecDepth 100000 in
set_option maxHeartbeats 1000000 in
theorem few_is (l : List Av) (a : Option Addr) (n cp : Nat) (w : World) (hl : ArgA w a n cp l) : Calls Try.prog 8 #[.slice a n cp] w fun e w' => ∃ r, e = .returned (.bool r) ∧ Below w.heap.size w w' := by
  have hz32 := zero32
  have HL : Hid (ArgA w a n cp l) := hl
  have qn : (n : Int) ≤ 2199023255552 := by have := hl.2.1; omega
  clear hl
  go_enter Try.func8, Try.ntmps8
  go_wp2
  go_loopw [8, 3] (fun u v W => ∃ (i : Nat) (k : Int), u = iv i ∧ v = iv k ∧ Hid (i ≤ n ∧ 0 ≤ k ∧ k ≤ 200 ∧ Below w.heap.size w W)) (fun u _ _ => n - (intOf u).toNat)
  case atStart => exact ⟨0, 0, rfl, rfl, Nat.zero_le _, by omega, by omega, Below.refl _ _⟩
  case round =>
    obtain ⟨i, k, rfl, rfl, HI⟩ := hrel
    by_cases hi : i = n
    · have q1 : (n : Int) ≤ (i : Int) := by omega
      clear hi
      go_wp2
      go_ret
      exact ⟨_, rfl, HI.out.2.2.2⟩
    · have HQ : Hid (i < n) := by have := HI.out.1; show _ < _; omega
      have q1 : (i : Int) < (n : Int) := by have := HQ.out; omega
      have q2 : i < n := HQ.out
      obtain ⟨ab, off, ha, hbl, hc⟩ := HL.out.2.2.2 (by omega)
      subst ha
      obtain ⟨x, hx⟩ : ∃ x, l[i]? = some x := ⟨_, List.getElem?_eq_getElem (by rw [HL.out.1]; exact q2)⟩
      have hr : wr.rangeAt ab (off + i * 5) x.cells := rangeAt_same (hc i x hx) (HI.out.2.2.2.block ab hbl)
      have HR : Hid (wr.rangeAt ab (off + i * 5) x.cells) := hr
      have hok := HL.out.2.2.1 x (List.mem_of_getElem? hx)
      clear hi hc hx hbl hr
      go_wp2_with (with_reducible change wpList _ _ _ ({ dst := some 11, op := _, type := _, pos := _, after := _, guard := _ } :: _) _ _; refine Hid.out ?_)
      show wpList _ _ _ _ _ _
      refine wpList_load_want rfl 32 (.tmp 10) rfl ab (off + i * 5) rfl x.cells _ HR.out Try.underlying32 rfl size32 ?_
      simp only [Act.put, List.setIfInBounds_toArray, List.set_cons_zero, List.set_cons_succ]
      obtain ⟨g5, hg5⟩ : ∃ g, wr.heap.size = g := ⟨_, rfl⟩
      go_wp2_with (with_reducible change wpList _ _ _ ({ dst := none, op := Op.store 32 _ _, type := _, pos := _, after := _, guard := _ } :: _) _ _; refine Hid.out ?_)
      show wpList _ _ _ _ _ _
      refine wpList_store_blk rfl 32 (.tmp 5) (.tmp 11) rfl g5 0 32 [iv 0, .string ⟨#[]⟩, .string ⟨#[]⟩, .string ⟨#[]⟩, iv 0] x.cells rfl rfl (by rw [← hg5]; exact Blk.new wr _ _) (by simp [Av.cells]) size32 (Av.one x) ?_
      intro V1 hb5' hg6
      have hV : Below wr.heap.size wr V1 := (below_al wr _).grown hg6.out (below_al wr _).size (fun j hj => by cases hj; omega)
      have HV : Hid (Below w.heap.size w V1) := below_tr HI.out.2.2.2 hV
      obtain ⟨sx, hsx⟩ : ∃ s : ByteArray, (⟨x.x.toArray⟩ : ByteArray) = s := ⟨_, rfl⟩
      obtain ⟨st, hst⟩ : ∃ s : ByteArray, (⟨x.t.toArray⟩ : ByteArray) = s := ⟨_, rfl⟩
      obtain ⟨su, hsu⟩ : ∃ s : ByteArray, (⟨x.u.toArray⟩ : ByteArray) = s := ⟨_, rfl⟩
      have c1 : V1.cell? ⟨g5, 1, none⟩ = some (.string sx) := by rw [← hsx]; exact hb5'.out.cell rfl
      have c2 : V1.cell? ⟨g5, 2, none⟩ = some (.string st) := by rw [← hst]; exact hb5'.out.cell rfl
      have c3 : V1.cell? ⟨g5, 3, none⟩ = some (.string su) := by rw [← hsu]; exact hb5'.out.cell rfl
      have z1 : (sx.size : Int) ≤ 140737488355328 := by rw [← hsx]; have := hok.1; simp [ByteArray.size]; omega
      have z2 : (st.size : Int) ≤ 140737488355328 := by rw [← hst]; have := hok.2.1; simp [ByteArray.size]; omega
      have z3 : (su.size : Int) ≤ 140737488355328 := by rw [← hsu]; have := hok.2.2; simp [ByteArray.size]; omega
      obtain ⟨n1, hn1⟩ : ∃ n, sx.size = n := ⟨_, rfl⟩
      obtain ⟨n2, hn2⟩ : ∃ n, st.size = n := ⟨_, rfl⟩
      obtain ⟨n3, hn3⟩ : ∃ n, su.size = n := ⟨_, rfl⟩
      have q4 : (0 : Int) ≤ k := HI.out.2.1
      have q5 : k ≤ 200 := HI.out.2.2.1
      clear hb5' hg6 hV hg5 HR hok hsx hst hsu
      obtain ⟨m, hm⟩ : ∃ m : Int, ((n1 : Int) + n2 + n3) / 100 = m := ⟨_, rfl⟩
      rw [hn1] at z1
      rw [hn2] at z2
      rw [hn3] at z3
      have q6 : (0 : Int) ≤ m := by omega
      have q7 : m ≤ 4222124650660 := by omega
      by_cases hk : 200 < k + (1 + m)
      · go_wp2
        go_ret
        exact ⟨_, rfl, HV.out⟩
      · have HK : Hid (0 ≤ k + (1 + m) ∧ k + (1 + m) ≤ 200) := ⟨by omega, by omega⟩
        go_wp2
        go_roundw
        case rel => exact ⟨i + 1, k + (1 + m), by simp, rfl, HQ.out, HK.out.1, HK.out.2, HV.out⟩
        case measure =>
          have := HQ.out
          simp only [intOf]
          omega
#print axioms few_is
end Go.Proofs.Ytfickhhfhdhcbaa.Oct
