/-
  Layer 15 (people): AddOrg.
-/
import Derived.Test.YtfickhhfhdhcbaaAddOrgReg
namespace Go.Proofs.Ytfickhhfhdhcbaa.Oct
open Go.RowKit

theorem khas_orgs (l : List Og) (h : Hs) : khas (orgsKv l) h = (l.find? (fun o => o.name == h)).isSome := by
  unfold khas
  rw [kget_orgs]
  cases l.find? (fun o => o.name == h) <;> rfl
/-- the organisation that AddOrg makes -/
def newOg (x u : Hs) (b : Nat) : Og := { name := x, blk := b + 1 + 1, tb := b, rb := b + 1, teams := [], roles := [(u, 2)] }
def Pm.addOrgE (M : Pm) (x u : Hs) : Int := if begins (M.org x).isSome x ≠ 0 then begins (M.org x).isSome x else if ¬ u ∈ M.users then 111 else if 8 ≤ M.orgs.length then 3 else 0
theorem begins_zero {c : Bool} {h : Hs} (e : begins c h = 0) : c = false ∧ isName h = true := by
  unfold begins at e
  cases c <;> cases hn : isName h <;> simp_all
set_option maxRecDepth 100000 in
set_option maxHeartbeats 1000000 in
theorem addOrg_is {w : World} {p : Nat} {M : Pm} (h : PAt w p M) (x u : Hs) (hx : x.length ≤ 140737488355328) (hl : u.length ≤ 140737488355328) : Calls Try.prog 25 #[.pointer (some ⟨p, 0, none⟩), hv x, hv u] w fun e w' => e = .returned (.int .i64 (M.addOrgE x u)) ∧ ((M.addOrgE x u ≠ 0 ∧ PAfter w p M M w') ∨ (M.addOrgE x u = 0 ∧ ∃ b, PAfter w p M { M with orgs := M.orgs ++ [newOg x u b] } w')) := by
  have H : Hid (PAt w p M) := h
  have HX : Hid (x.length ≤ 140737488355328) := hx
  have HL : Hid (u.length ≤ 140737488355328) := hl
  have c0 : w.cell? ⟨p, 0, none⟩ = some (.map (some M.ub)) := h.blk.cell rfl
  have c1 : w.cell? ⟨p, 1, none⟩ = some (.map (some M.ob)) := h.blk.cell rfl
  have HB : Hid (Calls Try.prog 50 #[.map (some M.ob), hv x] w fun e w' => e = .returned (.int .i64 (begins (M.org x).isSome x)) ∧ Below w.heap.size w w') := by
    have := begin_O h.os x hx
    rw [khas_orgs] at this
    exact this
  obtain ⟨ob, hob⟩ : ∃ ob, M.ob = ob := ⟨_, rfl⟩
  have HOB : Hid (M.ob = ob) := hob
  obtain ⟨ub, hub⟩ : ∃ ub, M.ub = ub := ⟨_, rfl⟩
  have HUB : Hid (M.ub = ub) := hub
  rw [hob] at c1 HB
  rw [hub] at c0
  obtain ⟨E, hE⟩ : ∃ E, M.addOrgE x u = E := ⟨_, rfl⟩
  have HE : Hid (M.addOrgE x u = E) := hE
  have HE2 : Hid (M.addOrgE x u = E) := hE
  rw [hE]
  unfold Pm.addOrgE at HE
  obtain ⟨g, hgg⟩ : ∃ g, begins (M.org x).isSome x = g := ⟨_, rfl⟩
  have HG : Hid (begins (M.org x).isSome x = g) := hgg
  rw [hgg] at HB HE
  clear h hx hl hob hub hE hgg
  by_cases hg : g = 0
  · subst hg
    by_cases hu : u ∈ M.users
    · by_cases hn : 8 ≤ M.orgs.length
      · have e0 : E = 3 := by have := HE.out; rw [if_neg (by simp), if_neg (by simpa using hu), if_pos hn] at this; exact this.symm
        subst e0
        have q1 : (8 : Int) ≤ (M.orgs.length : Int) := by omega
        have HD : Hid (decide (u ∈ M.users) = true) := by simpa [Hid] using hu
        clear hn hu HE
        go_enter Try.func25, Try.ntmps25
        go_wp2_with fail
        refine (made_is H.out).mono ?_
        rintro e w2 ⟨rfl, rfl⟩
        go_wp2_with fail
        refine HB.out.mono ?_
        rintro e w3 ⟨rfl, hb3⟩
        have H3 : Hid (PAt w3 p M ∧ Below w.heap.size w w3) := ⟨H.out.below hb3, hb3⟩
        have d0 : w3.cell? ⟨p, 0, none⟩ = some (.map (some ub)) := by rw [← HUB.out]; exact H3.out.1.blk.cell rfl
        clear hb3 c0 c1
        go_wp2_with fail
        rw [← HUB.out]
        refine (has_is H3.out.1.us u HL.out).mono ?_
        rintro e w4 ⟨rfl, hb4⟩
        have H4 : Hid (PAt w4 p M ∧ Below w.heap.size w w4) := ⟨H3.out.1.below hb4, H3.out.2.trans (hb4.mono H3.out.2.size)⟩
        rw [HD.out]
        have d1 : w4.cell? ⟨p, 1, none⟩ = some (.map (some ob)) := by rw [← HOB.out]; exact H4.out.1.blk.cell rfl
        have hlen : (Builtin.len_ #[49] 3 #[.map (some ob)]).run Try.prog w4 = .ok (.int .i64 (M.orgs.length : Int)) w4 := by
          have := H4.out.1.os.len (t := 49) Try.underlying49 3
          rw [HOB.out] at this
          simpa [orgsKv] using this
        clear hb4 d0
        go_wp2
        go_ret
        exact ⟨rfl, .inl ⟨by omega, PAfter.same H.out H4.out.2⟩⟩
      · have e0 : E = 0 := by have := HE.out; rw [if_neg (by simp), if_neg (by simpa using hu), if_neg hn] at this; exact this.symm
        subst e0
        have q1 : ¬ (8 : Int) ≤ (M.orgs.length : Int) := by omega
        have HD : Hid (decide (u ∈ M.users) = true) := by simpa [Hid] using hu
        have HN : Hid (M.orgs.length < 8 ∧ u ∈ M.users) := ⟨by omega, hu⟩
        clear hn hu HE
        go_enter Try.func25, Try.ntmps25
        go_wp2_with fail
        refine (made_is H.out).mono ?_
        rintro e w2 ⟨rfl, rfl⟩
        go_wp2_with fail
        refine HB.out.mono ?_
        rintro e w3 ⟨rfl, hb3⟩
        have H3 : Hid (PAt w3 p M ∧ Below w.heap.size w w3) := ⟨H.out.below hb3, hb3⟩
        have d0 : w3.cell? ⟨p, 0, none⟩ = some (.map (some ub)) := by rw [← HUB.out]; exact H3.out.1.blk.cell rfl
        clear hb3 c0 c1
        go_wp2_with fail
        rw [← HUB.out]
        refine (has_is H3.out.1.us u HL.out).mono ?_
        rintro e w4 ⟨rfl, hb4⟩
        have H4 : Hid (PAt w4 p M ∧ Below w.heap.size w w4) := ⟨H3.out.1.below hb4, H3.out.2.trans (hb4.mono H3.out.2.size)⟩
        rw [HD.out]
        have d1 : w4.cell? ⟨p, 1, none⟩ = some (.map (some ob)) := by rw [← HOB.out]; exact H4.out.1.blk.cell rfl
        have hlen : (Builtin.len_ #[49] 3 #[.map (some ob)]).run Try.prog w4 = .ok (.int .i64 (M.orgs.length : Int)) w4 := by
          have := H4.out.1.os.len (t := 49) Try.underlying49 3
          rw [HOB.out] at this
          simpa [orgsKv] using this
        clear hb4 d0
        go_wp2_with fail
        refine addOrg_region (ob := ob) (l := orgsKv M.orgs) ?_ ?_ HX HL ?_ ?_
        · have := H4.out.1.hp.apart
          rw [← HOB.out]
          simp [Pm.hp] at this
          exact this.1.2.1
        · rw [← HOB.out]; exact H4.out.1.os
        · exact ⟨by rw [← HOB.out]; exact H4.out.1.blk.cell rfl, H4.out.1.blk.lt⟩
        intro V1 V2 hN hP
        have HF : Hid (PAfter w p M { M with orgs := M.orgs ++ [newOg x u w4.heap.size] } V2) := by
          rw [← HOB.out] at hP
          obtain ⟨n1, n2, n3, n4⟩ := hN
          obtain ⟨m1, m2, m3⟩ := hP
          have hxs := begins_zero HG.out
          have hlt : M.ob < w4.heap.size := H4.out.1.os.lt
          have hkv : kput (orgsKv M.orgs) x (.pointer (some ⟨w4.heap.size + 1 + 1, 0, none⟩)) = orgsKv (M.orgs ++ [newOg x u w4.heap.size]) := by
            unfold kput
            rw [khas_orgs, show (M.orgs.find? (fun o => o.name == x)).isSome = false from hxs.1]
            simp [orgsKv, newOg]
          have b1 : V2.heap[w4.heap.size]? = V1.heap[w4.heap.size]? := m2.block _ n1.lt (by simp; omega)
          have b2 : V2.heap[w4.heap.size + 1]? = V1.heap[w4.heap.size + 1]? := m2.block _ n2.lt (by simp; omega)
          have b3 : V2.heap[w4.heap.size + 1 + 1]? = V1.heap[w4.heap.size + 1 + 1]? := m2.block _ n3.lt (by simp; omega)
          refine PAfter.first H4.out.2 (H4.out.1.newOrg n4 m2 (by rw [← hkv]; exact m1) HN.out.1 ⟨fun y hy => ?_, ?_⟩ ?_ ⟨by simp [newOg], ?_, ⟨(u, 2), by simp [newOg], rfl⟩, fun t ht => by simp [newOg] at ht⟩)
          · simp only [newOg, Og.hp, List.map_nil, List.mem_cons, List.not_mem_nil, or_false] at hy
            rcases hy with rfl | rfl | rfl
            · exact b3.trans n3
            · exact MP.same n1 b1
            · exact MP.same n2 b2
          · simp only [newOg, Og.hp, List.map_nil, List.map_cons]
            simp
            omega
          · intro b hb
            simp only [newOg, Og.hp, List.map_nil, List.map_cons, List.mem_cons, List.not_mem_nil, or_false] at hb
            rcases hb with rfl | rfl | rfl <;> omega
          · intro r hr
            obtain rfl : r = (u, 2) := by simpa [newOg] using hr
            exact ⟨HN.out.2, .inr rfl⟩
        clear hN hP hlen d1
        go_wp2
        go_ret
        exact ⟨rfl, .inr ⟨trivial, _, HF.out⟩⟩
    · have e0 : E = 111 := by have := HE.out; rw [if_neg (by simp), if_pos hu] at this; exact this.symm
      subst e0
      have HD : Hid (decide (u ∈ M.users) = false) := by simpa [Hid] using hu
      clear hu HE
      go_enter Try.func25, Try.ntmps25
      go_wp2_with fail
      refine (made_is H.out).mono ?_
      rintro e w2 ⟨rfl, rfl⟩
      go_wp2_with fail
      refine HB.out.mono ?_
      rintro e w3 ⟨rfl, hb3⟩
      have H3 : Hid (PAt w3 p M ∧ Below w.heap.size w w3) := ⟨H.out.below hb3, hb3⟩
      have d0 : w3.cell? ⟨p, 0, none⟩ = some (.map (some ub)) := by rw [← HUB.out]; exact H3.out.1.blk.cell rfl
      clear hb3 c0 c1
      go_wp2_with fail
      rw [← HUB.out]
      refine (has_is H3.out.1.us u HL.out).mono ?_
      rintro e w4 ⟨rfl, hb4⟩
      have H4 : Hid (Below w.heap.size w w4) := H3.out.2.trans (hb4.mono H3.out.2.size)
      rw [HD.out]
      clear hb4 d0
      go_wp2
      go_ret
      exact ⟨rfl, .inl ⟨by omega, PAfter.same H.out H4.out⟩⟩
  · have e0 : E = g := by have := HE.out; rw [if_pos hg] at this; exact this.symm
    subst e0
    have q1 : (E == 0) = false := by simpa using hg
    have q2 : (E != 0) = true := by simpa using hg
    have HNZ : Hid (E ≠ 0) := hg
    clear hg HE
    go_enter Try.func25, Try.ntmps25
    go_wp2_with fail
    refine (made_is H.out).mono ?_
    rintro e w2 ⟨rfl, rfl⟩
    go_wp2_with fail
    refine HB.out.mono ?_
    rintro e w3 ⟨rfl, hb3⟩
    have H3 : Hid (Below w.heap.size w w3) := hb3
    clear hb3 c0 c1
    go_wp2
    go_ret
    exact ⟨rfl, .inl ⟨HNZ.out, PAfter.same H.out H3.out⟩⟩
#print axioms addOrg_is
end Go.Proofs.Ytfickhhfhdhcbaa.Oct
